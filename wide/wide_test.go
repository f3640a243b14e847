package wide_test

import (
	"fmt"
	"math"
	"math/big"
	"testing"

	"anamorph/wide"
)

// numbers are the edges of 64 bits, and some beside them.
var numbers = []int64{
	0, 1, -1, 2, -2, 3, -3, 7, -7, 10, -10, 65536, -65536,
	1<<31 - 1, 1 << 31, -1 << 31, 1<<32 + 5, -1<<32 - 5, 1 << 62, -1 << 62, 1234567890123456789,
	math.MaxInt64, math.MaxInt64 - 1, math.MinInt64, math.MinInt64 + 1,
}

// least and greatest are the ends of 128 bits.
var (
	least    = wide.Int{Hi: math.MinInt64}
	greatest = wide.Int{Hi: math.MaxInt64, Lo: math.MaxUint64}
)

// ints are the edges of 128 bits, and some beside them.
func ints() []wide.Int {
	his := []int64{0, 1, -1, 2, -2, 1 << 62, -1 << 62, 12345678901, math.MaxInt64, math.MaxInt64 - 1, math.MinInt64, math.MinInt64 + 1}
	los := []uint64{0, 1, 2, 10, 1<<63 - 1, 1 << 63, 1<<63 + 1, math.MaxUint64 - 1, math.MaxUint64, 0x123456789abcdef0}
	var l []wide.Int
	for _, hi := range his {
		for _, lo := range los {
			l = append(l, wide.Int{Hi: hi, Lo: lo})
		}
	}
	x := uint64(1)
	for n := range 96 { // and some of all lengths, without any pattern
		x = x*6364136223846793005 + 1442695040888963407
		y := x*2862933555777941757 + 3037000493
		a, _ := told(new(big.Int).Rsh(whole(wide.Int{Hi: int64(x), Lo: y}), uint(n*127/96)))
		l = append(l, a)
	}
	return l
}

// whole is the number of an Int.
func whole(a wide.Int) *big.Int {
	n := new(big.Int).Lsh(big.NewInt(a.Hi), 64)
	return n.Add(n, new(big.Int).SetUint64(a.Lo))
}

// told is the Int of a number; Int{}, false, if it is none.
func told(n *big.Int) (wide.Int, bool) {
	hi := new(big.Int).Rsh(n, 64) // rounds down
	if !hi.IsInt64() {
		return wide.Int{}, false
	}
	lo := new(big.Int).Sub(n, new(big.Int).Lsh(hi, 64))
	return wide.Int{Hi: hi.Int64(), Lo: lo.Uint64()}, true
}

// hold checks an answer against a number.
func hold(t *testing.T, what string, got wide.Int, is bool, n *big.Int) {
	t.Helper()
	want, has := told(n)
	if got != want || is != has {
		t.Fatalf("%s: %v %v, not %v %v", what, got, is, want, has)
	}
}

func TestP1_1_Sums(t *testing.T) {
	for _, x := range numbers {
		hold(t, fmt.Sprintf("Of(%d)", x), wide.Of(x), true, big.NewInt(x))
	}
	for _, a := range ints() {
		n, is := wide.Neg(a)
		hold(t, fmt.Sprintf("Neg(%v)", a), n, is, new(big.Int).Neg(whole(a)))
		for _, b := range ints() {
			s, is := wide.Add(a, b)
			hold(t, fmt.Sprintf("Add(%v, %v)", a, b), s, is, new(big.Int).Add(whole(a), whole(b)))
			d, is := wide.Sub(a, b)
			hold(t, fmt.Sprintf("Sub(%v, %v)", a, b), d, is, new(big.Int).Sub(whole(a), whole(b)))
		}
	}
}

func TestP1_1_SumsAtTheEnds(t *testing.T) {
	one, minus := wide.Int{Lo: 1}, wide.Int{Hi: -1, Lo: math.MaxUint64}
	for _, c := range []struct {
		what string
		do   func() (wide.Int, bool)
		want wide.Int
		is   bool
	}{
		{"carry", func() (wide.Int, bool) { return wide.Add(wide.Int{Lo: math.MaxUint64}, one) }, wide.Int{Hi: 1}, true},
		{"borrow", func() (wide.Int, bool) { return wide.Sub(wide.Int{Hi: 1}, one) }, wide.Int{Lo: math.MaxUint64}, true},
		{"one past the greatest", func() (wide.Int, bool) { return wide.Add(greatest, one) }, wide.Int{}, false},
		{"up to the greatest", func() (wide.Int, bool) { return wide.Sub(minus, least) }, greatest, true},
		{"one past the least", func() (wide.Int, bool) { return wide.Sub(least, one) }, wide.Int{}, false},
		{"the least and -1", func() (wide.Int, bool) { return wide.Add(least, minus) }, wide.Int{}, false},
		{"both ends", func() (wide.Int, bool) { return wide.Add(least, greatest) }, minus, true},
		{"0 less the least", func() (wide.Int, bool) { return wide.Sub(wide.Int{}, least) }, wide.Int{}, false},
		{"the least turned", func() (wide.Int, bool) { return wide.Neg(least) }, wide.Int{}, false},
		{"the greatest turned", func() (wide.Int, bool) { return wide.Neg(greatest) }, wide.Int{Hi: math.MinInt64, Lo: 1}, true},
		{"0 turned", func() (wide.Int, bool) { return wide.Neg(wide.Int{}) }, wide.Int{}, true},
	} {
		if got, is := c.do(); got != c.want || is != c.is {
			t.Errorf("%s: %v %v, not %v %v", c.what, got, is, c.want, c.is)
		}
	}
}

func TestP1_2_Products(t *testing.T) {
	for _, a := range numbers {
		for _, b := range numbers {
			hold(t, fmt.Sprintf("Mul(%d, %d)", a, b), wide.Mul(a, b), true, new(big.Int).Mul(big.NewInt(a), big.NewInt(b)))
		}
	}
	for _, a := range ints() {
		for _, b := range numbers {
			p, is := wide.Scale(a, b)
			hold(t, fmt.Sprintf("Scale(%v, %d)", a, b), p, is, new(big.Int).Mul(whole(a), big.NewInt(b)))
		}
	}
}

func TestP1_2_ProductsAtTheEnds(t *testing.T) {
	if p := wide.Mul(1<<62, 4); p != (wide.Int{Hi: 1}) {
		t.Error(p)
	}
	if p := wide.Mul(math.MinInt64, math.MinInt64); p != (wide.Int{Hi: 1 << 62}) {
		t.Error(p)
	}
	if p, is := wide.Scale(wide.Int{Hi: 1 << 62}, -2); p != least || !is {
		t.Error("down to the least:", p, is)
	}
	for _, c := range []struct {
		a wide.Int
		b int64
	}{
		{wide.Int{Hi: 1 << 62}, 2}, {least, -1}, {least, math.MinInt64}, {greatest, math.MaxInt64},
		{wide.Int{Hi: 1 << 62, Lo: 1}, -2}, {wide.Int{Hi: 1}, math.MinInt64}, {wide.Int{Hi: -1}, math.MinInt64}, {wide.Int{Hi: 1 << 32}, 1 << 31},
	} {
		p, is := wide.Scale(c.a, c.b)
		hold(t, fmt.Sprintf("Scale(%v, %d)", c.a, c.b), p, is, new(big.Int).Mul(whole(c.a), big.NewInt(c.b)))
	}
	// 2^127 and 1 is three times a number: just one past the least.
	third, _ := new(big.Int).SetString("56713727820156410577229101238628035243", 10)
	a, _ := told(third)
	for _, b := range []int64{3, -3} {
		if p, is := wide.Scale(a, b); p != (wide.Int{}) || is {
			t.Errorf("Scale(%v, %d): %v %v", a, b, p, is)
		}
	}
	// Halves that only carry out of the room, and such as wrap round to 0.
	for _, a := range []wide.Int{{Hi: math.MaxInt64, Lo: math.MaxUint64}, {Hi: 1 << 61}, {Hi: 1 << 60, Lo: 1 << 63}, {Hi: 3, Lo: 7}} {
		for _, b := range []int64{2, 3, 4, 8, 16, 32, 1 << 60, 1 << 61, 1 << 62, math.MaxInt64, math.MinInt64} {
			p, is := wide.Scale(a, b)
			hold(t, fmt.Sprintf("Scale(%v, %d)", a, b), p, is, new(big.Int).Mul(whole(a), big.NewInt(b)))
		}
	}
}

func TestP1_2_PowersOfTwo(t *testing.T) {
	l := append(ints(), wide.Of(5), wide.Of(-5), wide.Int{Hi: -1, Lo: 1 << 63}, wide.Int{Hi: -1, Lo: 1<<63 - 1})
	for _, a := range l {
		for n := range 140 {
			s, is := wide.Shl(a, n)
			hold(t, fmt.Sprintf("Shl(%v, %d)", a, n), s, is, new(big.Int).Lsh(whole(a), uint(n)))
			hold(t, fmt.Sprintf("Shr(%v, %d)", a, n), wide.Shr(a, n), true, new(big.Int).Rsh(whole(a), uint(n)))
		}
		for _, n := range []int{-1, -2, -63, -64, -65, -128, math.MinInt64, math.MinInt64 + 1} {
			if s, is := wide.Shl(a, n); s != (wide.Int{}) || is {
				t.Fatalf("Shl(%v, %d): %v %v", a, n, s, is)
			}
			if s := wide.Shr(a, n); s != a {
				t.Fatalf("Shr(%v, %d): %v", a, n, s)
			}
		}
		for _, n := range []int{191, 192, 255, 256, 1 << 32, 1<<32 + 1, math.MaxInt64 - 1, math.MaxInt64} {
			s, is := wide.Shl(a, n)
			if s != (wide.Int{}) || is != (a == wide.Int{}) {
				t.Fatalf("Shl(%v, %d): %v %v", a, n, s, is)
			}
			if s := wide.Shr(a, n); s != wide.Of(a.Hi>>63) {
				t.Fatalf("Shr(%v, %d): %v", a, n, s)
			}
		}
	}
	if s, is := wide.Shl(wide.Of(-1), 127); s != least || !is {
		t.Error("down to the least:", s, is)
	}
	if s, is := wide.Shl(wide.Of(1), 127); s != (wide.Int{}) || is {
		t.Error("one past the greatest:", s, is)
	}
	if s := wide.Shr(wide.Of(-5), 1); s != wide.Of(-3) {
		t.Error("rounded down:", s)
	}
}

func TestP1_3_Order(t *testing.T) {
	for _, a := range ints() {
		if s := wide.Sign(a); s != whole(a).Sign() {
			t.Fatalf("Sign(%v): %d", a, s)
		}
		for _, b := range ints() {
			if c := wide.Cmp(a, b); c != whole(a).Cmp(whole(b)) {
				t.Fatalf("Cmp(%v, %v): %d", a, b, c)
			}
		}
	}
	if wide.Cmp(wide.Of(-1), wide.Of(1)) != -1 || wide.Cmp(least, greatest) != -1 || wide.Cmp(greatest, least) != 1 {
		t.Error("the sign is above all")
	}
}

func TestP1_3_Fits(t *testing.T) {
	for _, x := range numbers {
		if got, is := wide.Fits(wide.Of(x)); got != x || !is {
			t.Fatalf("Fits of %d: %d %v", x, got, is)
		}
	}
	for _, a := range ints() {
		got, is := wide.Fits(a)
		n := whole(a)
		if is != n.IsInt64() || is && got != n.Int64() || !is && got != 0 {
			t.Fatalf("Fits(%v): %d %v", a, got, is)
		}
	}
	for _, a := range []wide.Int{{Lo: 1 << 63}, {Hi: -1, Lo: 1<<63 - 1}, {Hi: 1}, {Hi: -1}, {Hi: -2, Lo: math.MaxUint64}, least, greatest} {
		if got, is := wide.Fits(a); got != 0 || is {
			t.Errorf("Fits(%v): %d %v", a, got, is)
		}
	}
}

func TestP1_3_Text(t *testing.T) {
	for _, c := range []struct {
		a    wide.Int
		want string
	}{
		{wide.Int{}, "0"}, {wide.Int{Lo: 9}, "9"}, {wide.Int{Lo: 10}, "10"}, {wide.Int{Lo: 100}, "100"},
		{wide.Int{Hi: -1, Lo: math.MaxUint64}, "-1"}, {wide.Int{Hi: -1}, "-18446744073709551616"},
		{wide.Int{Hi: 1}, "18446744073709551616"}, {wide.Int{Lo: math.MaxUint64}, "18446744073709551615"},
		{least, "-170141183460469231731687303715884105728"}, {greatest, "170141183460469231731687303715884105727"},
	} {
		if got := wide.Text(c.a); got != c.want {
			t.Errorf("Text(%v): %q", c.a, got)
		}
	}
	for _, a := range ints() {
		if got := wide.Text(a); got != whole(a).String() {
			t.Fatalf("Text(%v): %q", a, got)
		}
	}
	// Noughts within: powers of ten, and one less and more.
	for n, p := 0, big.NewInt(1); n < 39; n, p = n+1, new(big.Int).Mul(p, big.NewInt(10)) {
		for d := int64(-1); d <= 1; d++ {
			x := new(big.Int).Add(p, big.NewInt(d))
			for _, y := range []*big.Int{x, new(big.Int).Neg(x)} {
				if a, is := told(y); is && wide.Text(a) != y.String() {
					t.Fatalf("Text of %v: %q", y, wide.Text(a))
				}
			}
		}
	}
}

func TestP1_4_Laws(t *testing.T) {
	all := ints()
	for i, a := range all {
		for k, b := range all {
			commute(t, a, b)
			associate(t, a, b, all[(i*7+k*31+11)%len(all)])
			distribute(t, a, b, numbers[(i+k)%len(numbers)])
		}
	}
	for _, x := range numbers {
		for _, y := range numbers {
			p, is := wide.Scale(wide.Of(x), y)
			if q := wide.Mul(y, x); wide.Mul(x, y) != q || p != q || !is {
				t.Fatalf("%d times %d: %v %v %v", x, y, wide.Mul(x, y), q, p)
			}
		}
	}
}

func commute(t *testing.T, a, b wide.Int) {
	t.Helper()
	s, is := wide.Add(a, b)
	r, has := wide.Add(b, a)
	if s != r || is != has {
		t.Fatalf("%v and %v: %v %v, %v %v", a, b, s, is, r, has)
	}
	d, is := wide.Sub(a, b)
	if back, has := wide.Add(d, b); is && (back != a || !has) {
		t.Fatalf("%v less %v and it again: %v %v", a, b, back, has)
	}
}

func associate(t *testing.T, a, b, c wide.Int) {
	t.Helper()
	ab, is1 := wide.Add(a, b)
	l, is2 := wide.Add(ab, c)
	bc, is3 := wide.Add(b, c)
	r, is4 := wide.Add(a, bc)
	if is1 && is2 && is3 && is4 && l != r {
		t.Fatalf("%v, %v, %v: %v, %v", a, b, c, l, r)
	}
}

func distribute(t *testing.T, a, b wide.Int, x int64) {
	t.Helper()
	s, is1 := wide.Add(a, b)
	l, is2 := wide.Scale(s, x)
	ax, is3 := wide.Scale(a, x)
	bx, is4 := wide.Scale(b, x)
	r, is5 := wide.Add(ax, bx)
	if is1 && is2 && is3 && is4 && is5 && l != r {
		t.Fatalf("%v and %v, times %d: %v, %v", a, b, x, l, r)
	}
}

// every is what all calls tell of one triple.
func every(a, b wide.Int, x int64) string {
	s, is1 := wide.Add(a, b)
	d, is2 := wide.Sub(a, b)
	n, is3 := wide.Neg(a)
	p, is4 := wide.Scale(a, x)
	l, is5 := wide.Shl(a, int(x))
	f, is6 := wide.Fits(a)
	return fmt.Sprint(s, is1, d, is2, n, is3, p, is4, l, is5, f, is6, wide.Of(x), wide.Mul(x, f),
		wide.Shr(a, int(x)), wide.Cmp(a, b), wide.Sign(a), wide.Text(a))
}

// P1 and P2: all end at all edges, and tell the same again, whatever was called between.
func TestP1_P2_TheSameAgain(t *testing.T) {
	all := ints()
	var first []string
	for i, a := range all {
		first = append(first, every(a, all[len(all)-1-i], numbers[i%len(numbers)]))
	}
	for i := len(all) - 1; i >= 0; i-- {
		if again := every(all[i], all[len(all)-1-i], numbers[i%len(numbers)]); again != first[i] {
			t.Fatalf("%v: %s, then %s", all[i], first[i], again)
		}
	}
}
