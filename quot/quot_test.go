package quot_test

import (
	"fmt"
	"math"
	"math/big"
	"testing"

	"anamorph/api"
	"anamorph/quot"
	"anamorph/wide"
)

// numbers are the edges of 64 bits, and some beside them; divisors, too: of both signs, and 0.
var numbers = []int64{
	0, 1, -1, 2, -2, 3, -3, 4, -4, 5, -5, 6, -6, 7, -7, 10, -10, 15, -16, 65535, 65536, -65536, 65537,
	1<<31 - 1, 1 << 31, -1 << 31, -1<<31 - 1, 1<<32 + 5, -1<<32 - 5, 1 << 46, -1 << 46, 1<<62 - 1, 1 << 62, -1 << 62,
	1234567890123456789, -987654321987654321,
	math.MaxInt64, math.MaxInt64 - 1, math.MaxInt64 / 2, math.MinInt64, math.MinInt64 + 1, math.MinInt64/2 - 1,
}

// least and greatest are the ends of 128 bits.
var (
	least    = wide.Int{Hi: math.MinInt64}
	greatest = wide.Int{Hi: math.MaxInt64, Lo: math.MaxUint64}
)

// ints are the edges of 128 bits, and some beside them.
func ints() []wide.Int {
	his := []int64{0, 1, -1, 2, -3, 1 << 30, -1<<30 - 1, 1 << 62, -1 << 62, math.MaxInt64, math.MinInt64, math.MinInt64 + 1}
	los := []uint64{0, 1, 2, 1<<63 - 1, 1 << 63, 1<<63 + 1, math.MaxUint64 - 1, math.MaxUint64, 0x123456789abcdef0}
	var l []wide.Int
	for _, hi := range his {
		for _, lo := range los {
			l = append(l, wide.Int{Hi: hi, Lo: lo})
		}
	}
	for _, x := range numbers {
		l = append(l, wide.Of(x))
	}
	return l
}

// whole is the number of an Int.
func whole(a wide.Int) *big.Int {
	n := new(big.Int).Lsh(big.NewInt(a.Hi), 64)
	return n.Add(n, new(big.Int).SetUint64(a.Lo))
}

// told is the Int of a number; Int{}, false, if it is none.
func told(n *big.Int) (wide.Int, bool) {
	hi := new(big.Int).Rsh(n, 64) // rounds down
	if !hi.IsInt64() {
		return wide.Int{}, false
	}
	lo := new(big.Int).Sub(n, new(big.Int).Lsh(hi, 64))
	return wide.Int{Hi: hi.Int64(), Lo: lo.Uint64()}, true
}

// down is a quotient rounded down, and what is left.
func down(a, b *big.Int) (*big.Int, *big.Int) {
	q, rest := new(big.Int).QuoRem(a, b, new(big.Int))
	if rest.Sign() != 0 && rest.Sign() != b.Sign() {
		q.Sub(q, big.NewInt(1))
		rest.Add(rest, b)
	}
	return q, rest
}

// nearer is a quotient rounded to the nearer number, of two the greater one.
func nearer(a, b *big.Int) *big.Int {
	twice := new(big.Int).Lsh(a, 1)
	q, _ := down(twice.Add(twice, b), new(big.Int).Lsh(b, 1))
	return q
}

// short checks an answer of 64 bits against a number; none: there must be nothing.
func short(t *testing.T, what string, got int64, is bool, n *big.Int) {
	t.Helper()
	want, has := int64(0), n != nil && n.IsInt64()
	if has {
		want = n.Int64()
	}
	if got != want || is != has {
		t.Fatalf("%s: %d %v, not %d %v", what, got, is, want, has)
	}
}

// long checks an answer of 128 bits.
func long(t *testing.T, what string, got wide.Int, is bool, n *big.Int) {
	t.Helper()
	want, has := wide.Int{}, false
	if n != nil {
		want, has = told(n)
	}
	if got != want || is != has {
		t.Fatalf("%s: %v %v, not %v %v", what, got, is, want, has)
	}
}

func TestP2_1_BySigns(t *testing.T) {
	for _, c := range []struct{ a, b, floor, mod, near int64 }{
		{7, 2, 3, 1, 4}, {-7, 2, -4, 1, -3}, {7, -2, -4, -1, -3}, {-7, -2, 3, -1, 4},
		{6, 3, 2, 0, 2}, {-6, 3, -2, 0, -2}, {6, -3, -2, 0, -2}, {-6, -3, 2, 0, 2},
		{1, 3, 0, 1, 0}, {2, 3, 0, 2, 1}, {-1, 3, -1, 2, 0}, {-2, 3, -1, 1, -1},
		{1, -3, -1, -2, 0}, {2, -3, -1, -1, -1}, {-1, -3, 0, -1, 0}, {-2, -3, 0, -2, 1},
		{1, 2, 0, 1, 1}, {-1, 2, -1, 1, 0}, {1, -2, -1, -1, 0}, {-1, -2, 0, -1, 1},
		{0, 5, 0, 0, 0}, {0, -5, 0, 0, 0}, {5, 1, 5, 0, 5}, {5, -1, -5, 0, -5},
		{math.MinInt64, 1, math.MinInt64, 0, math.MinInt64}, {math.MaxInt64, -1, -math.MaxInt64, 0, -math.MaxInt64},
		{math.MinInt64, math.MinInt64, 1, 0, 1}, {math.MaxInt64, math.MaxInt64, 1, 0, 1},
		{math.MinInt64, math.MaxInt64, -2, math.MaxInt64 - 1, -1}, {math.MaxInt64, math.MinInt64, -1, -1, -1},
		{1 << 62, math.MinInt64, -1, -1 << 62, 0}, {-1 << 62, math.MinInt64, 0, -1 << 62, 1},
		{1<<62 - 1, math.MaxInt64, 0, 1<<62 - 1, 0}, {1 << 62, math.MaxInt64, 0, 1 << 62, 1},
		{math.MinInt64, 2, -1 << 62, 0, -1 << 62}, {math.MaxInt64, 2, 1<<62 - 1, 1, 1 << 62},
	} {
		floor, is := quot.Floor(c.a, c.b)
		if floor != c.floor || !is {
			t.Errorf("Floor(%d, %d): %d %v", c.a, c.b, floor, is)
		}
		mod, is := quot.Mod(c.a, c.b)
		if mod != c.mod || !is {
			t.Errorf("Mod(%d, %d): %d %v", c.a, c.b, mod, is)
		}
		near, is := quot.Near(c.a, c.b)
		if near != c.near || !is {
			t.Errorf("Near(%d, %d): %d %v", c.a, c.b, near, is)
		}
	}
}

func TestP2_1_Of64Bits(t *testing.T) {
	for _, a := range numbers {
		for _, b := range numbers {
			var floor, rest, near *big.Int
			if b != 0 {
				floor, rest = down(big.NewInt(a), big.NewInt(b))
				near = nearer(big.NewInt(a), big.NewInt(b))
			}
			q, is := quot.Floor(a, b)
			short(t, fmt.Sprintf("Floor(%d, %d)", a, b), q, is, floor)
			r, is := quot.Mod(a, b)
			short(t, fmt.Sprintf("Mod(%d, %d)", a, b), r, is, rest)
			n, is := quot.Near(a, b)
			short(t, fmt.Sprintf("Near(%d, %d)", a, b), n, is, near)
		}
	}
}

func TestP2_1_SmallOnes(t *testing.T) {
	for a := int64(-60); a <= 60; a++ {
		for b := int64(-13); b <= 13; b++ {
			if b == 0 {
				continue
			}
			floor, rest := down(big.NewInt(a), big.NewInt(b))
			q, is := quot.Floor(a, b)
			short(t, fmt.Sprintf("Floor(%d, %d)", a, b), q, is, floor)
			r, is := quot.Mod(a, b)
			short(t, fmt.Sprintf("Mod(%d, %d)", a, b), r, is, rest)
			n, is := quot.Near(a, b)
			short(t, fmt.Sprintf("Near(%d, %d)", a, b), n, is, nearer(big.NewInt(a), big.NewInt(b)))
			w, left, is := quot.Wide(wide.Of(a), b)
			long(t, fmt.Sprintf("Wide(%d, %d)", a, b), w, is, floor)
			short(t, fmt.Sprintf("left of Wide(%d, %d)", a, b), left, true, rest)
			h, is := quot.Half(wide.Of(a), b)
			long(t, fmt.Sprintf("Half(%d, %d)", a, b), h, is, nearer(big.NewInt(a), big.NewInt(b)))
		}
	}
}

func TestP2_1_Nothing(t *testing.T) {
	for _, a := range numbers {
		if q, is := quot.Floor(a, 0); q != 0 || is {
			t.Errorf("Floor(%d, 0): %d %v", a, q, is)
		}
		if r, is := quot.Mod(a, 0); r != 0 || is {
			t.Errorf("Mod(%d, 0): %d %v", a, r, is)
		}
		if q, is := quot.Near(a, 0); q != 0 || is {
			t.Errorf("Near(%d, 0): %d %v", a, q, is)
		}
	}
	if q, is := quot.Floor(math.MinInt64, -1); q != 0 || is {
		t.Errorf("Floor without room: %d %v", q, is)
	}
	if q, is := quot.Near(math.MinInt64, -1); q != 0 || is {
		t.Errorf("Near without room: %d %v", q, is)
	}
	if r, is := quot.Mod(math.MinInt64, -1); r != 0 || !is {
		t.Errorf("Mod where Floor has no room: %d %v", r, is)
	}
}

func TestP2_2_Of128Bits(t *testing.T) {
	for _, a := range ints() {
		for _, b := range numbers {
			var floor, near *big.Int
			rest := big.NewInt(0)
			if b != 0 {
				floor, rest = down(whole(a), big.NewInt(b))
				near = nearer(whole(a), big.NewInt(b))
			}
			q, left, is := quot.Wide(a, b)
			long(t, fmt.Sprintf("Wide(%v, %d)", a, b), q, is, floor)
			if !is {
				rest = big.NewInt(0)
			}
			if left != rest.Int64() {
				t.Fatalf("left of Wide(%v, %d): %d, not %v", a, b, left, rest)
			}
			h, is := quot.Half(a, b)
			long(t, fmt.Sprintf("Half(%v, %d)", a, b), h, is, near)
		}
	}
}

func TestP2_2_Ends(t *testing.T) {
	for _, a := range []wide.Int{{}, wide.Of(7), wide.Of(-7), least, greatest} {
		if q, rest, is := quot.Wide(a, 0); q != (wide.Int{}) || rest != 0 || is {
			t.Errorf("Wide(%v, 0): %v %d %v", a, q, rest, is)
		}
		if q, is := quot.Half(a, 0); q != (wide.Int{}) || is {
			t.Errorf("Half(%v, 0): %v %v", a, q, is)
		}
	}
	if q, rest, is := quot.Wide(least, -1); q != (wide.Int{}) || rest != 0 || is {
		t.Errorf("Wide without room: %v %d %v", q, rest, is)
	}
	if q, is := quot.Half(least, -1); q != (wide.Int{}) || is {
		t.Errorf("Half without room: %v %v", q, is)
	}
	if q, rest, is := quot.Wide(least, math.MinInt64); q != (wide.Int{Hi: 1}) || rest != 0 || !is {
		t.Errorf("both least: %v %d %v", q, rest, is)
	}
	if q, rest, is := quot.Wide(wide.Of(-7), 2); q != wide.Of(-4) || rest != 1 || !is {
		t.Errorf("-7 by 2: %v %d %v", q, rest, is)
	}
	if q, is := quot.Half(wide.Of(-7), 2); q != wide.Of(-3) || !is {
		t.Errorf("-7 by 2, nearer: %v %v", q, is)
	}
	if q, is := quot.Half(greatest, 2); q != (wide.Int{Hi: 1 << 62}) || !is {
		t.Errorf("the greatest by 2, nearer: %v %v", q, is)
	}
}

func TestP2_3_Cut(t *testing.T) {
	const far = 1 << 46
	for _, c := range []struct {
		a    wide.Int
		want int64
	}{
		{wide.Int{}, 0}, {wide.Of(-1), -1}, {wide.Of(98304), 98304},
		{wide.Of(far - 1), far - 1}, {wide.Of(far), far}, {wide.Of(far + 1), far},
		{wide.Of(1 - far), 1 - far}, {wide.Of(-far), -far}, {wide.Of(-far - 1), -far},
		{wide.Of(math.MaxInt64), far}, {wide.Of(math.MinInt64), -far},
		{wide.Int{Lo: 1 << 63}, far}, {wide.Int{Lo: math.MaxUint64}, far}, {wide.Int{Hi: 1}, far}, {wide.Int{Hi: 1, Lo: 5}, far},
		{wide.Int{Hi: -1}, -far}, {wide.Int{Hi: -1, Lo: 1<<63 - 1}, -far}, {wide.Int{Hi: -2, Lo: math.MaxUint64}, -far},
		{least, -far}, {greatest, far},
	} {
		if got := quot.Cut(c.a); got != c.want {
			t.Errorf("Cut(%v): %d, not %d", c.a, got, c.want)
		}
	}
	if api.Far != far {
		t.Error("Far is 2^46")
	}
}

// place is what Place must tell.
func place(a wide.Int, b int64) *big.Int {
	if b == 0 {
		return nil
	}
	q, _ := down(new(big.Int).Lsh(whole(a), 16), big.NewInt(b))
	far := big.NewInt(1 << 46)
	if q.CmpAbs(far) <= 0 {
		return q
	}
	return far.Mul(far, big.NewInt(int64(q.Sign())))
}

func TestP2_3_Place(t *testing.T) {
	for _, a := range ints() {
		for _, b := range numbers {
			u, is := quot.Place(a, b)
			short(t, fmt.Sprintf("Place(%v, %d)", a, b), u, is, place(a, b))
		}
	}
	// Quotients around Far on both sides, of any divisor.
	for _, b := range []int64{1, -1, 2, 3, -3, 65536, 65537, -65539, 1 << 40, -1<<40 - 1, math.MaxInt64, math.MinInt64} {
		for _, far := range []int64{1 << 30, -1 << 30} {
			for d := int64(-3); d <= 3; d++ {
				a, _ := wide.Add(wide.Mul(far, b), wide.Of(d))
				u, is := quot.Place(a, b)
				short(t, fmt.Sprintf("Place(%v, %d)", a, b), u, is, place(a, b))
			}
		}
	}
}

func TestP2_3_PlaceBySigns(t *testing.T) {
	for _, c := range []struct {
		a    wide.Int
		b    int64
		want int64
		is   bool
	}{
		{wide.Of(3), 2, 98304, true}, {wide.Of(-3), 2, -98304, true}, {wide.Of(3), -2, -98304, true},
		{wide.Of(1), 3, 21845, true}, {wide.Of(-1), 3, -21846, true}, {wide.Of(1), -3, -21846, true}, {wide.Of(-1), -3, 21845, true},
		{wide.Of(0), 7, 0, true}, {wide.Of(7), 0, 0, false}, {wide.Of(0), 0, 0, false}, {greatest, 0, 0, false},
		{wide.Of(-1), math.MaxInt64, -1, true}, {wide.Of(1), math.MaxInt64, 0, true},
		{greatest, 1, 1 << 46, true}, {greatest, -1, -1 << 46, true}, {least, 1, -1 << 46, true}, {least, -1, 1 << 46, true},
		{wide.Of(1 << 30), 1, 1 << 46, true}, {wide.Of(-1 << 30), 1, -1 << 46, true},
	} {
		if u, is := quot.Place(c.a, c.b); u != c.want || is != c.is {
			t.Errorf("Place(%v, %d): %d %v, not %d %v", c.a, c.b, u, is, c.want, c.is)
		}
	}
}

func TestP2_4_JustOne(t *testing.T) {
	for _, b := range numbers {
		if b == 0 {
			continue
		}
		for _, a := range numbers {
			q, is := quot.Floor(a, b)
			rest, _ := quot.Mod(a, b)
			again, _ := wide.Add(wide.Mul(q, b), wide.Of(rest))
			if is && again != wide.Of(a) || !less(rest, b) {
				t.Fatalf("%d by %d: %d, left %d", a, b, q, rest)
			}
		}
		for _, a := range ints() {
			q, rest, is := quot.Wide(a, b)
			if !is {
				continue
			}
			p := new(big.Int).Mul(whole(q), big.NewInt(b))
			if p.Add(p, big.NewInt(rest)).Cmp(whole(a)) != 0 || !less(rest, b) {
				t.Fatalf("%v by %d: %v, left %d", a, b, q, rest)
			}
		}
	}
}

// less tells whether what is left is less than the divisor, and has its sign, or is 0.
func less(rest, b int64) bool {
	return b > 0 && 0 <= rest && rest < b || b < 0 && b < rest && rest <= 0
}

// every is what all calls tell of some numbers.
func every(a wide.Int, x, b int64) string {
	floor, is1 := quot.Floor(x, b)
	mod, is2 := quot.Mod(x, b)
	near, is3 := quot.Near(x, b)
	q, rest, is4 := quot.Wide(a, b)
	half, is5 := quot.Half(a, b)
	u, is6 := quot.Place(a, b)
	return fmt.Sprint(floor, is1, mod, is2, near, is3, q, rest, is4, half, is5, u, is6, quot.Cut(a))
}

// P1 and P2: all end at all edges, and tell the same again, whatever was called between.
func TestP1_P2_TheSameAgain(t *testing.T) {
	all := ints()
	var first []string
	for i, a := range all {
		for _, b := range numbers {
			first = append(first, every(a, numbers[i%len(numbers)], b))
		}
	}
	for k := len(first) - 1; k >= 0; k-- {
		i, b := k/len(numbers), numbers[k%len(numbers)]
		if again := every(all[i], numbers[i%len(numbers)], b); again != first[k] {
			t.Fatalf("%v by %d: %s, then %s", all[i], b, first[k], again)
		}
	}
}
