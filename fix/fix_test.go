package fix_test

import (
	"fmt"
	"math"
	"math/big"
	"slices"
	"testing"

	"anamorph/fix"
)

const one = 65536

// numbers are the edges of 64 bits and of parts, and some beside them; divisors, too: of both signs, and 0.
var numbers = []int64{
	0, 1, -1, 2, -2, 3, -3, 7, -10, 32767, 32768, -32768, -32769, one - 1, one, one + 1, -one + 1, -one, -one - 1, 98304, -98304,
	1<<31 - 1, 1 << 31, -1 << 31, 1 << 32, -1<<32 - 1, 1 << 39, -1 << 39, 1<<39 - 1, 1 << 46, 1<<47 - 1, 1 << 47, -1 << 47, -1<<47 - 1,
	1 << 62, -1 << 62, 1234567890123456789, -987654321987654321, math.MaxInt64, math.MaxInt64 - 1, math.MinInt64, math.MinInt64 + 1,
}

// down is a quotient by a number, rounded down; none, if that is 0.
func down(a, b *big.Int) *big.Int {
	if b.Sign() == 0 {
		return nil
	}
	q, rest := new(big.Int).QuoRem(a, b, new(big.Int))
	if rest.Sign() != 0 && rest.Sign() != b.Sign() {
		q.Sub(q, big.NewInt(1))
	}
	return q
}

// hold checks an answer against a number; nil: there must be nothing.
func hold(t *testing.T, what string, got int64, is bool, n *big.Int) {
	t.Helper()
	want, has := int64(0), n != nil && n.IsInt64()
	if has {
		want = n.Int64()
	}
	if got != want || is != has {
		t.Fatalf("%s: %d %v, not %d %v", what, got, is, want, has)
	}
}

func TestP4_1_SumsAndProducts(t *testing.T) {
	for _, x := range numbers {
		for _, y := range numbers {
			a, b := big.NewInt(x), big.NewInt(y)
			s, is := fix.Add(x, y)
			hold(t, fmt.Sprintf("Add(%d, %d)", x, y), s, is, new(big.Int).Add(a, b))
			d, is := fix.Sub(x, y)
			hold(t, fmt.Sprintf("Sub(%d, %d)", x, y), d, is, new(big.Int).Sub(a, b))
			p, is := fix.Mul(x, y)
			hold(t, fmt.Sprintf("Mul(%d, %d)", x, y), p, is, new(big.Int).Rsh(new(big.Int).Mul(a, b), 16))
			q, is := fix.Div(x, y)
			hold(t, fmt.Sprintf("Div(%d, %d)", x, y), q, is, down(new(big.Int).Lsh(a, 16), b))
		}
	}
}

func TestP4_1_ByHand(t *testing.T) {
	for _, c := range []struct {
		what string
		do   func(a, b int64) (int64, bool)
		a, b int64
		want int64
		is   bool
	}{
		{"sum", fix.Add, 98304, -one, 32768, true},
		{"sum without room", fix.Add, math.MaxInt64, 1, 0, false},
		{"sum without room below 0", fix.Add, math.MinInt64, -1, 0, false},
		{"sum of both ends", fix.Add, math.MinInt64, math.MaxInt64, -1, true},
		{"difference", fix.Sub, 1, 3, -2, true},
		{"difference without room", fix.Sub, 0, math.MinInt64, 0, false},
		{"difference at the end", fix.Sub, -1, math.MinInt64, math.MaxInt64, true},
		{"1.5 times 1.5", fix.Mul, 98304, 98304, 147456, true},
		{"a product rounded down", fix.Mul, 1, 1, 0, true},
		{"a product rounded down below 0", fix.Mul, 1, -1, -1, true},
		{"a product without room", fix.Mul, math.MaxInt64, one + 1, 0, false},
		{"a product with room", fix.Mul, math.MaxInt64, one, math.MaxInt64, true},
		{"the least product", fix.Mul, 1 << 47, -1 << 32, math.MinInt64, true},
		{"one past the greatest product", fix.Mul, 1 << 47, 1 << 32, 0, false},
		{"1.5 by 2", fix.Div, 98304, 2 * one, 49152, true},
		{"a quotient rounded down", fix.Div, 1, 3, 21845, true},
		{"a quotient rounded down below 0", fix.Div, -1, 3, -21846, true},
		{"a quotient of two below 0", fix.Div, -1, -3, 21845, true},
		{"a quotient by one below 0", fix.Div, 1, -3, -21846, true},
		{"by 0", fix.Div, 5, 0, 0, false},
		{"0 by 0", fix.Div, 0, 0, 0, false},
		{"a quotient without room", fix.Div, 1 << 47, 1, 0, false},
		{"the least quotient", fix.Div, -1 << 47, 1, math.MinInt64, true},
		{"the greatest by 1", fix.Div, math.MaxInt64, one, math.MaxInt64, true},
		{"the least by -1", fix.Div, math.MinInt64, -one, 0, false},
	} {
		if got, is := c.do(c.a, c.b); got != c.want || is != c.is {
			t.Errorf("%s: %d %v, not %d %v", c.what, got, is, c.want, c.is)
		}
	}
}

// row is a number again and again.
func row(n int, x int64) []int64 { return slices.Repeat([]int64{x}, n) }

// dot is what Dot must tell; none, if the rows don't fit.
func dot(a, b []int64) *big.Int {
	if len(a) != len(b) || len(a) > 64 {
		return nil
	}
	s := new(big.Int)
	for i := range a {
		s.Add(s, new(big.Int).Mul(big.NewInt(a[i]), big.NewInt(b[i])))
	}
	return s.Rsh(s, 16)
}

func TestP4_2_Dot(t *testing.T) {
	for _, c := range []struct {
		what string
		a, b []int64
		want int64
		is   bool
	}{
		{"nothing", nil, nil, 0, true},
		{"nothing and nil", []int64{}, nil, 0, true},
		{"one", []int64{98304}, []int64{2 * one}, 3 * one, true},
		{"rounded once, not each", []int64{1, 1}, []int64{32768, 32768}, 1, true},
		{"rounded down", []int64{1, 1}, []int64{32768, 32767}, 0, true},
		{"rounded down below 0", []int64{1, -1}, []int64{1, 2}, -1, true},
		{"rounded down below 0, once", []int64{-1, -1, -1}, []int64{1, 1, 1}, -1, true},
		{"just 0", []int64{-1, 1}, []int64{5, 5}, 0, true},
		{"64", row(64, one), row(64, 1), 64, true},
		{"65", row(65, one), row(65, 1), 0, false},
		{"65 of 0", row(65, 0), row(65, 0), 0, false},
		{"1000", row(1000, 0), row(1000, 0), 0, false},
		{"64 and 65", row(64, 1), row(65, 1), 0, false},
		{"65 and 64", row(65, 1), row(64, 1), 0, false},
		{"1 and none", row(1, 0), nil, 0, false},
		{"none and 1", nil, row(1, 0), 0, false},
		{"2 and 3", row(2, 5), row(3, 5), 0, false},
		{"more than 128 bits", row(64, math.MinInt64), row(64, math.MinInt64), 0, false},
		{"more than 128 bits below 0", row(64, math.MinInt64), row(64, math.MaxInt64), 0, false},
		{"no room", []int64{math.MaxInt64, math.MaxInt64}, []int64{one, one}, 0, false},
		{"no room below 0", []int64{math.MinInt64, -1}, []int64{one, 1}, 0, false},
		{"the least", []int64{math.MinInt64, 1}, []int64{one, 0}, math.MinInt64, true},
		{"the greatest, and parts", []int64{math.MaxInt64, 1}, []int64{one, one - 1}, math.MaxInt64, true},
		{"one past the greatest", []int64{math.MaxInt64, 1}, []int64{one, one}, 0, false},
		{"back again", []int64{math.MaxInt64, math.MaxInt64, math.MinInt64}, []int64{one, one, one}, math.MaxInt64 - 1, true},
	} {
		if got, is := fix.Dot(c.a, c.b); got != c.want || is != c.is {
			t.Errorf("%s: %d %v, not %d %v", c.what, got, is, c.want, c.is)
		}
	}
}

func TestP4_2_DotOutOfTheRoomAndBack(t *testing.T) {
	// The products of the first half have no room in 128 bits; those of the second bring the sum back.
	a := append(row(32, math.MinInt64), row(32, math.MinInt64)...)
	b := append(row(32, math.MinInt64), row(32, math.MaxInt64)...)
	got, is := fix.Dot(a, b)
	hold(t, "32 products and back, too far", got, is, dot(a, b))
	b = append(row(32, math.MaxInt64), row(32, -math.MaxInt64)...)
	got, is = fix.Dot(a, b)
	hold(t, "32 products and back", got, is, dot(a, b))
	if got != 0 || !is {
		t.Error("not back at 0:", got, is)
	}
	a[63], b[63], a[62], b[62] = 3*one, 7, 5, 2
	a[0], a[1] = 0, 0
	got, is = fix.Dot(a, b)
	hold(t, "30 products and back, and more", got, is, dot(a, b))
	if got != 21 || !is {
		t.Error("not back at 21:", got, is)
	}
}

func TestP4_2_DotOfMany(t *testing.T) {
	x := uint64(5)
	for n := range 66 {
		for bits := uint(1); bits < 64; bits += 6 {
			var a, b []int64
			for range n {
				x = x*6364136223846793005 + 1442695040888963407
				a = append(a, int64(x)>>bits)
				x = x*6364136223846793005 + 1442695040888963407
				b = append(b, int64(x)>>(63-bits/2))
			}
			got, is := fix.Dot(a, b)
			hold(t, fmt.Sprintf("Dot(%v, %v)", a, b), got, is, dot(a, b))
			got, is = fix.Dot(b, a)
			hold(t, fmt.Sprintf("Dot(%v, %v)", b, a), got, is, dot(a, b))
		}
	}
}

// horner is what Horner must tell; none, if something has no room.
func horner(c []int64, x int64) *big.Int {
	if len(c) > 64 {
		return nil
	}
	v := new(big.Int)
	for _, n := range c {
		v.Mul(v, big.NewInt(x))
		v.Rsh(v, 16)
		if !v.IsInt64() {
			return nil
		}
		if v.Add(v, big.NewInt(n)); !v.IsInt64() {
			return nil
		}
	}
	return v
}

func TestP4_2_Horner(t *testing.T) {
	for _, c := range []struct {
		what string
		c    []int64
		x    int64
		want int64
		is   bool
	}{
		{"nothing", nil, 5 * one, 0, true},
		{"one", []int64{7}, math.MinInt64, 7, true},
		{"the first one first", []int64{2 * one, 3 * one, 5 * one}, 10 * one, 235 * one, true},
		{"rounded each time", []int64{1, 0, 0}, 32768, 0, true},
		{"rounded each time below 0", []int64{-1, 0, 0}, 32768, -1, true},
		{"by 0", []int64{9, 8, 7}, 0, 7, true},
		{"64", row(64, 1), one, 64, true},
		{"65", row(65, 1), one, 0, false},
		{"65 of 0", row(65, 0), 0, 0, false},
		{"1000 of 0", row(1000, 0), 0, 0, false},
		{"no room for a product", []int64{math.MaxInt64, 0}, 2 * one, 0, false},
		{"no room for a product on the way, though the sum had", []int64{math.MaxInt64, math.MinInt64}, 2 * one, 0, false},
		{"no room for a product on the way, 0 behind", []int64{math.MaxInt64, 0, 0, 5}, 2 * one, 0, false},
		{"no room for a sum", []int64{math.MaxInt64, 1}, one, 0, false},
		{"no room for a sum on the way", []int64{math.MaxInt64, 1, -5}, one, 0, false},
		{"no room below 0", []int64{math.MinInt64, -1}, one, 0, false},
		{"room at the end", []int64{math.MaxInt64 - 1, 1}, one, math.MaxInt64, true},
		{"room at the other end", []int64{math.MaxInt64, -1}, -one, math.MinInt64, true},
	} {
		if got, is := fix.Horner(c.c, c.x); got != c.want || is != c.is {
			t.Errorf("%s: %d %v, not %d %v", c.what, got, is, c.want, c.is)
		}
	}
	y := uint64(9)
	for n := range 67 {
		for _, x := range numbers {
			var c []int64
			for range n {
				y = y*6364136223846793005 + 1442695040888963407
				c = append(c, int64(y)>>(y%61))
			}
			got, is := fix.Horner(c, x)
			hold(t, fmt.Sprintf("Horner(%v, %d)", c, x), got, is, horner(c, x))
		}
	}
}

// every is what all calls tell of two numbers.
func every(x, y int64) string {
	s, is1 := fix.Add(x, y)
	d, is2 := fix.Sub(x, y)
	p, is3 := fix.Mul(x, y)
	q, is4 := fix.Div(x, y)
	l, is5 := fix.Dot([]int64{x, y, x}, []int64{y, x, -1})
	h, is6 := fix.Horner([]int64{x, y, 1}, y)
	r, is7 := fix.Read(fix.Show(x))
	return fmt.Sprint(s, is1, d, is2, p, is3, q, is4, l, is5, h, is6, fix.Show(y), r, is7)
}

// P1 and P2: all end at all edges, and tell the same again, whatever was called between.
func TestP1_P2_TheSameAgain(t *testing.T) {
	var first []string
	for _, x := range numbers {
		for _, y := range numbers {
			first = append(first, every(x, y))
		}
	}
	for k := len(first) - 1; k >= 0; k-- {
		x, y := numbers[k/len(numbers)], numbers[k%len(numbers)]
		if again := every(x, y); again != first[k] {
			t.Fatalf("%d, %d: %s, then %s", x, y, first[k], again)
		}
	}
}

// What is handed in isn't changed.
func TestP2_RowsStay(t *testing.T) {
	a, b := []int64{1, -2, 3, one}, []int64{5, 6, -7, 8}
	fix.Dot(a, b)
	fix.Horner(a, 3*one)
	if !slices.Equal(a, []int64{1, -2, 3, one}) || !slices.Equal(b, []int64{5, 6, -7, 8}) {
		t.Error(a, b)
	}
}
