package homog_test

import (
	"fmt"
	"math"
	"math/big"
	"slices"
	"testing"

	"anamorph/affine"
	"anamorph/api"
	"anamorph/homog"
)

const (
	coef = 1 << 24
	move = 1 << 31
	tilt = 1 << 12
	one  = 65536
	far  = 1 << 46
	end  = 1 << 20
)

// limits are how far from 0 each number may be.
var limits = []int64{coef, coef, move, coef, coef, move, tilt, tilt, coef}

// view is a map, for an image of a size.
type view struct {
	c    []int64
	w, h int
}

// views are right ones: plain ones, tilted ones, divided by numbers below 0, and such as lie at the ends.
func views() []view {
	l := []view{
		{[]int64{one, 0, 0, 0, one, 0, 0, 0, one}, 9, 9}, {[]int64{-one, 0, 0, 0, one, 0, 0, 0, one}, 9, 9}, {[]int64{one, 0, 0, 0, one, 0, 0, 0, -one}, 7, 3},
		{[]int64{one, 0, 0, 0, one, 0, -tilt, 0, one}, 32, 1}, {[]int64{one, 0, 0, 0, one, 0, tilt, 0, one}, 16, 5}, {[]int64{one, 0, 0, 0, one, 0, 0, tilt, one}, 5, 16},
		{[]int64{one, 0, 0, 0, one, 0, 100, -300, one}, 200, 300}, {[]int64{-one, 0, 0, 0, one, 0, 100, 300, one}, 40, 50}, {[]int64{0, one, 0, one, 0, 0, -7, 9, one}, 64, 65},
		{[]int64{one, 3000, 500000, -2000, one + 77, -900000, 13, -17, one - 5}, 99, 77}, {[]int64{-one, 1, -5 * one, 1, -one, 7 * one, 3, 5, -one}, 33, 22},
		{[]int64{coef, 0, move, 0, coef, -move, 0, 0, coef}, 32768, 32768}, {[]int64{coef, -coef, -move, coef, coef, move, 0, 0, -coef}, 1, 32768}, {[]int64{coef, coef, move, coef, -coef, move, tilt, tilt, -coef}, 9, 9},
		{[]int64{coef, 0, one, 0, coef, one, -tilt, -tilt, 0}, 12, 12}, {[]int64{coef, -coef, move, coef, coef, -move, tilt, tilt, coef}, 4, 4}, {[]int64{coef, 0, move, 0, coef, move, tilt, 0, 1}, 4095, 1},
		{[]int64{1, 0, 0, 0, 1, 0, 0, 0, coef}, 10, 10}, {[]int64{1, 0, move, 0, 1, move, 0, 0, 1}, 3, 3}, {[]int64{coef, 0, move, 0, coef, move, -tilt, -tilt, -coef}, 20, 20},
		{[]int64{2049, 0, 0, 0, one, 0, -tilt, 0, one}, 8, 8}, {[]int64{63488, 0, 0, 0, 1, 0, tilt, 0, one}, 15, 1}, {[]int64{5, 3, 9, 2, 4, 8, 0, 0, 1}, 5, 6},
	}
	x := uint64(11)
	for n := range 400 { // and some without any pattern
		c := make([]int64, 9)
		for i := range c {
			x = x*6364136223846793005 + 1442695040888963407
			c[i] = int64(x>>33)%(limits[i]+1)>>(n%12) - limits[i]>>(n%12+1)
		}
		v := view{c, n%7 + 1, n%5 + 1}
		if code(v) == api.OK {
			l = append(l, v)
		}
	}
	return l
}

// place is px divided by d, py divided by d.
type place struct{ px, py, d int64 }

// places are right ones.
func places() []place {
	l := []place{{end, end, 1}, {-end, -end, 1}, {end, -end, 16}, {-end, end, 16}, {end, 0, 3}, {0, -end, 7}, {16, 0, 1}, {31, 5, 2}, {-16, -16, 1}, {0, 16, 1}}
	for _, d := range []int64{1, 2, 3, 15, 16} {
		for _, px := range []int64{0, 1, -1, 2, -7, 16, 99, 32767} {
			for _, py := range []int64{0, 1, -1, 5, -16, 17, -1000} {
				l = append(l, place{px, py, d})
			}
		}
	}
	return l
}

// wrong are places that aren't right.
func wrong() []place {
	l := []place{{0, 0, 0}, {0, 0, -1}, {0, 0, 17}, {0, 0, -16}, {1, 1, math.MinInt64}, {1, 1, math.MaxInt64}}
	for _, p := range []int64{end + 1, -end - 1, 1 << 32, math.MinInt64, math.MaxInt64} {
		l = append(l, place{p, 0, 1}, place{0, p, 1}, place{p, p, 16}, place{p, -p, 0})
	}
	return l
}

// sum is products added up; each is of as many numbers as there are.
func sum(products ...[]int64) *big.Int {
	s := new(big.Int)
	for _, l := range products {
		p := big.NewInt(1)
		for _, x := range l {
			p.Mul(p, big.NewInt(x))
		}
		s.Add(s, p)
	}
	return s
}

// adjugate is that of a matrix, number by number.
func adjugate(c []int64) [9]*big.Int {
	less := func(a, b, p, q int) *big.Int { return sum([]int64{c[a], c[b]}, []int64{-1, c[p], c[q]}) }
	return [9]*big.Int{
		less(4, 8, 5, 7), less(2, 7, 1, 8), less(1, 5, 2, 4),
		less(5, 6, 3, 8), less(0, 8, 2, 6), less(2, 3, 0, 5),
		less(3, 7, 4, 6), less(1, 6, 0, 7), less(0, 4, 1, 3),
	}
}

// det is the determinant.
func det(c []int64) *big.Int {
	a := adjugate(c)
	s := new(big.Int)
	for i := range 3 {
		s.Add(s, new(big.Int).Mul(big.NewInt(c[i]), a[3*i]))
	}
	return s
}

// put is three of an adjugate's numbers at a place.
func put(a []*big.Int, p place) *big.Int {
	s := new(big.Int)
	for i, x := range []int64{p.px, p.py, p.d} {
		s.Add(s, new(big.Int).Mul(a[i], big.NewInt(x)))
	}
	return s
}

// code is that of a map, as the document tells it.
func code(v view) api.Errno {
	if len(v.c) != 9 {
		return api.ErrSize
	}
	for i, x := range v.c {
		if x < -limits[i] || x > limits[i] {
			return api.ErrRange
		}
	}
	if v.w < 1 || v.h < 1 || v.w > 32768 || v.h > 32768 {
		return api.ErrLimit
	}
	if det(v.c).Sign() == 0 {
		return api.ErrSingular
	}
	signs := 0
	for _, x := range []int{-1, 2*v.w - 1} {
		for _, y := range []int{-1, 2*v.h - 1} {
			a := adjugate(v.c)
			signs += put(a[6:], place{int64(x), int64(y), 2}).Sign()
		}
	}
	if signs != 4 && signs != -4 {
		return api.ErrSign
	}
	return api.OK
}

// told is a quotient in parts, rounded down and cut.
func told(a *big.Int, b *big.Int) int64 {
	a = new(big.Int).Mul(a, big.NewInt(one))
	if b.Sign() < 0 {
		a.Neg(a)
		b = new(big.Int).Neg(b)
	}
	q := a.Div(a, b) // of a divisor above 0 Div rounds down
	if q.CmpAbs(big.NewInt(far)) > 0 {
		return int64(q.Sign()) * far
	}
	return q.Int64()
}

// want is where a place comes from, as the document tells it.
func want(a [9]*big.Int, p place) (int64, int64, api.Errno) {
	under := put(a[6:], p)
	if under.Sign() == 0 {
		return 0, 0, api.ErrSign
	}
	return told(put(a[:3], p), under), told(put(a[3:6], p), under), api.OK
}

// made is a right map.
func made(t *testing.T, v view) *homog.Map {
	t.Helper()
	m, e := homog.New(v.c, v.w, v.h)
	if m == nil || e != api.OK {
		t.Fatalf("New(%v): %v", v, e)
	}
	return m
}

// checked checks the code of a map.
func checked(t *testing.T, v view, want api.Errno) {
	t.Helper()
	if e := homog.Check(v.c, v.w, v.h); e != want {
		t.Errorf("Check(%v): %v, not %v", v, e, want)
	}
	if m, e := homog.New(v.c, v.w, v.h); e != want || (m == nil) != (want != api.OK) {
		t.Errorf("New(%v): %v %v, not %v", v, m, e, want)
	}
}

func TestP19_2_Size(t *testing.T) {
	for n := range 20 {
		if n != 9 {
			checked(t, view{slices.Repeat([]int64{math.MinInt64}, n), 0, 0}, api.ErrSize)
			checked(t, view{make([]int64, n), 5, 5}, api.ErrSize)
		}
	}
	checked(t, view{nil, 1, 1}, api.ErrSize)
	checked(t, view{[]int64{one, 0, 0, 0, one, 0, 0, 0}, 1, 1}, api.ErrSize)
	checked(t, view{[]int64{one, 0, 0, 0, one, 0, 0, 0, one, 0}, 1, 1}, api.ErrSize)
}

func TestP19_2_Range(t *testing.T) {
	for i, most := range limits {
		for _, x := range []int64{most, -most, most - 1, 1 - most} {
			c := []int64{one, 0, 0, 0, one, 0, 0, 0, one}
			c[i] = x
			checked(t, view{c, 1, 1}, api.OK)
		}
		for _, x := range []int64{most + 1, -most - 1, 1 << 40, math.MinInt64, math.MaxInt64, math.MinInt64 + 1} {
			for _, c := range [][]int64{{one, 0, 0, 0, one, 0, 0, 0, one}, make([]int64, 9), slices.Repeat([]int64{1}, 9)} {
				c[i] = x
				checked(t, view{c, 1, 1}, api.ErrRange)
				checked(t, view{c, 0, 40000}, api.ErrRange)
			}
		}
	}
	checked(t, view{[]int64{one, 0, 0, 0, one, 0, one, 0, one}, 1, 1}, api.ErrRange) // the document's seventh example
}

func TestP19_2_Limit(t *testing.T) {
	for _, c := range [][]int64{{one, 0, 0, 0, one, 0, 0, 0, one}, {one, 0, 0, 0, one, 0, 1, -1, coef}} {
		for _, s := range [][2]int{{1, 1}, {32768, 1}, {1, 32768}, {32768, 32768}} {
			checked(t, view{c, s[0], s[1]}, api.OK)
		}
	}
	for _, n := range []int{0, -1, 32769, 1 << 32, math.MinInt, math.MaxInt} {
		for _, c := range [][]int64{{one, 0, 0, 0, one, 0, 0, 0, one}, make([]int64, 9), {one, 0, 0, 0, one, 0, tilt, 0, -one}} {
			checked(t, view{c, n, 1}, api.ErrLimit)
			checked(t, view{c, 1, n}, api.ErrLimit)
			checked(t, view{c, n, n}, api.ErrLimit)
		}
	}
}

func TestP19_2_Singular(t *testing.T) {
	for _, c := range [][]int64{
		make([]int64, 9), {1, 2, 3, 4, 5, 6, 7, 8, 9}, {one, 0, 0, 0, one, 0, 0, 0, 0}, {coef, coef, move, coef, coef, move, tilt, tilt, coef},
		{one, one, 0, one, one, 0, 0, 0, one}, {2, 4, 6, 1, 2, 3, 5, 5, 5}, {0, one, 0, 0, one, 7, 0, 9, one},
	} {
		checked(t, view{c, 1, 1}, api.ErrSingular)
		checked(t, view{c, 32768, 3}, api.ErrSingular)
	}
}

// The line on which the divisor is 0, right beside the corners, at them, and across the image.
func TestP19_2_Sign(t *testing.T) {
	for _, c := range []struct {
		c    []int64
		w, h int
		want api.Errno
	}{
		{[]int64{one, 0, 0, 0, one, 0, tilt, 0, one}, 16, 1, api.OK}, {[]int64{one, 0, 0, 0, one, 0, tilt, 0, one}, 17, 1, api.ErrSign}, // 0 at column 16
		{[]int64{one, 0, 0, 0, one, 0, 0, tilt, one}, 1, 16, api.OK}, {[]int64{one, 0, 0, 0, one, 0, 0, tilt, one}, 1, 17, api.ErrSign},
		{[]int64{63488, 0, 0, 0, one, 0, tilt, 0, one}, 15, 9, api.OK}, {[]int64{63488, 0, 0, 0, one, 0, tilt, 0, one}, 16, 9, api.ErrSign}, // 0 at column 15.5
		{[]int64{one, 0, 0, 0, 63488, 0, 0, tilt, one}, 9, 15, api.OK}, {[]int64{one, 0, 0, 0, 63488, 0, 0, tilt, one}, 9, 16, api.ErrSign},
		{[]int64{2048, 0, 0, 0, one, 0, -tilt, 0, one}, 5, 5, api.ErrSign}, {[]int64{2049, 0, 0, 0, one, 0, -tilt, 0, one}, 5, 5, api.OK}, // at and beside column -1/2
		{[]int64{one, 0, 0, 0, 2048, 0, 0, -tilt, one}, 5, 5, api.ErrSign}, {[]int64{one, 0, 0, 0, 2049, 0, 0, -tilt, one}, 5, 5, api.OK}, {[]int64{one, 0, 0, 0, 2047, 0, 0, -tilt, one}, 5, 5, api.ErrSign},
		{[]int64{-one, 0, 0, 0, one, 0, -tilt, 0, one}, 16, 1, api.OK}, {[]int64{-one, 0, 0, 0, one, 0, -tilt, 0, one}, 17, 1, api.ErrSign}, // below 0 at all
		{[]int64{-2049, 0, 0, 0, one, 0, tilt, 0, one}, 5, 5, api.OK}, {[]int64{-2048, 0, 0, 0, one, 0, tilt, 0, one}, 5, 5, api.ErrSign},
		{[]int64{one, 0, 0, 0, one, 0, tilt, tilt, one}, 8, 8, api.OK}, {[]int64{one, 0, 0, 0, one, 0, tilt, tilt, one}, 8, 9, api.ErrSign}, // the last corner alone, where it is 0
		{[]int64{one, 0, 0, 0, one, 0, tilt, tilt, one}, 7, 9, api.OK}, {[]int64{one, 0, 0, 0, one, 0, tilt, tilt, one}, 9, 9, api.ErrSign},
		{[]int64{one, 0, 0, 0, one, 0, tilt, -tilt, one}, 15, 99, api.OK}, {[]int64{one, 0, 0, 0, one, 0, tilt, -tilt, one}, 17, 99, api.ErrSign}, // the corner to the right
		{[]int64{one, 0, 0, 0, one, 0, -tilt, tilt, one}, 99, 15, api.OK}, {[]int64{one, 0, 0, 0, one, 0, -tilt, tilt, one}, 99, 17, api.ErrSign}, // the lower one
		{[]int64{4097, 0, 0, 0, 4097, 0, -tilt, -tilt, one}, 9, 9, api.OK}, {[]int64{4096, 0, 0, 0, 4096, 0, -tilt, -tilt, one}, 9, 9, api.ErrSign}, // the first one
		{[]int64{1, 0, 0, 0, 1, 0, -1, 0, 1}, 9, 9, api.OK}, {[]int64{-1, 0, 0, 0, 1, 0, 1, 0, 1}, 9, 9, api.OK}, // 1 and -1, twice, at the first column
		{[]int64{0, 0, one, 0, one, 0, tilt, 0, 0}, 3, 3, api.ErrSign}, {[]int64{one, 0, 0, 0, one, 0, 1, 0, one}, 32768, 1, api.OK}, {[]int64{one, 0, 0, 0, one, 0, 3, 0, one}, 32768, 1, api.ErrSign},
	} {
		if e := code(view{c.c, c.w, c.h}); e != c.want {
			t.Fatalf("%v %d %d: the test is wrong: %v", c.c, c.w, c.h, e)
		}
		checked(t, view{c.c, c.w, c.h}, c.want)
		minus := slices.Clone(c.c) // the same map
		for i := range minus {
			minus[i] = -minus[i]
		}
		checked(t, view{minus, c.w, c.h}, c.want)
	}
}

func TestP19_2_Check(t *testing.T) {
	seen := map[api.Errno]int{}
	x := uint64(7)
	next := func(n int64) int64 {
		x = x*6364136223846793005 + 1442695040888963407
		return int64(x>>33) % n
	}
	for n := range 6000 {
		c := make([]int64, 9)
		for i, most := range limits {
			c[i] = next(2*(most>>(n%9))+1) - most>>(n%9)
		}
		if n%2 == 0 {
			c[0], c[4], c[1], c[3] = one+c[0]%one, one-c[4]%one, c[1]%5000, c[3]%5000
		}
		v := view{c, int(next(60)) + 1, int(next(60)) + 1}
		want := code(v)
		seen[want]++
		checked(t, v, want)
	}
	if seen[api.OK] < 300 || seen[api.ErrSign] < 300 {
		t.Error("the maps aren't of both kinds:", seen)
	}
	for _, v := range views() {
		checked(t, v, code(v))
	}
}

func TestP19_3_ByHand(t *testing.T) {
	m := made(t, view{[]int64{one, 0, 0, 0, one, 0, 0, 0, one}, 9, 9})
	if u, v, e := m.At(3, 4, 1); u != 3*one || v != 4*one || e != api.OK {
		t.Error(u, v, e)
	}
	// x, y comes to x / (x/16 + 1), y / (x/16 + 1): 16, 8 to 8, 4.
	m = made(t, view{[]int64{one, 0, 0, 0, one, 0, tilt, 0, one}, 9, 9})
	if u, v, e := m.At(8, 4, 1); u != 16*one || v != 8*one || e != api.OK {
		t.Error(u, v, e)
	}
	if u, v, e := m.At(32, 4, 1); u != -32*one || v != -4*one || e != api.OK { // beyond the line on which the divisor is 0
		t.Error(u, v, e)
	}
	if u, v, e := m.At(16, 4, 1); u != 0 || v != 0 || e != api.ErrSign {
		t.Error(u, v, e)
	}
	if u, v, e := m.At(-1, 1, 1); u != -61681 || v != 61680 || e != api.OK { // -16/17 and 16/17, both rounded down
		t.Error(u, v, e)
	}
	// Divided by numbers below 0.
	m = made(t, view{[]int64{one, 0, 0, 0, one, 0, 0, 0, -3 * one}, 9, 9})
	if u, v, e := m.At(1, -1, 7); u != -28087 || v != 28086 || e != api.OK {
		t.Error(u, v, e)
	}
	m = made(t, view{[]int64{one, 0, 0, 0, one, 0, 0, 0, coef}, 9, 9})
	if u, v, e := m.At(end, -end, 1); u != 1<<44 || v != -1<<44 || e != api.OK {
		t.Error(u, v, e)
	}
	m = made(t, view{[]int64{1, 0, 0, 0, 1, 0, 0, 0, 1 << 14}, 9, 9})
	for _, c := range [][4]int64{{65536, -65536, far, -far}, {65537, -65537, far, -far}, {65535, -65535, far - 1<<30, 1<<30 - far}, {-end, end, -far, far}} {
		if u, v, e := m.At(c[0], c[1], 1); u != c[2] || v != c[3] || e != api.OK {
			t.Error(c, u, v, e)
		}
	}
}

func TestP19_3_At(t *testing.T) {
	seen := map[api.Errno]int{}
	for _, v := range views() {
		m, a := made(t, v), adjugate(v.c)
		for _, p := range places() {
			x, y, e := want(a, p)
			seen[e]++
			if u, v2, code := m.At(p.px, p.py, p.d); u != x || v2 != y || code != e {
				t.Fatalf("%v at %v: %d %d %v, not %d %d %v", v, p, u, v2, code, x, y, e)
			}
		}
	}
	if seen[api.ErrSign] == 0 {
		t.Error("nowhere is the divisor 0")
	}
}

// What has come to a place comes from there.
func TestP19_1_BackAgain(t *testing.T) {
	c := []int64{3 * one, one, 2 * one, -one, 2 * one, 5 * one, 0, 0, one}
	m := made(t, view{c, 50, 50})
	for x := int64(-9); x <= 9; x++ {
		for y := int64(-9); y <= 9; y++ {
			if u, v, e := m.At(3*x+y+2, 2*y-x+5, 1); u != x*one || v != y*one || e != api.OK {
				t.Fatalf("%d %d comes from %d %d %v", x, y, u, v, e)
			}
		}
	}
	// x, y comes to 60 x / (x + 15), 60 y / (x + 15), if all is told in parts of 4096.
	m = made(t, view{[]int64{60 * 4096, 0, 0, 0, 60 * 4096, 0, 4096, 0, 15 * 4096}, 30, 30})
	for _, x := range []int64{-14, -13, -12, -11, -10, -9, -5, -3, 0, 1, 5, 15, 45} {
		for y := int64(-9); y <= 9; y++ {
			n := x + 15 // divides 60 x, but not 60 y
			if 60*x%n != 0 || 60*y%n != 0 {
				continue
			}
			if u, v, e := m.At(60*x/n, 60*y/n, 1); u != x*one || v != y*one || e != api.OK {
				t.Fatalf("%d %d comes from %d %d %v", x, y, u, v, e)
			}
		}
	}
}

func TestP19_3_WrongOnes(t *testing.T) {
	var none *homog.Map
	m := made(t, view{[]int64{one, 0, 0, 0, one, 0, tilt, 0, one}, 9, 9})
	for _, p := range wrong() {
		if u, v, e := m.At(p.px, p.py, p.d); u != 0 || v != 0 || e != api.ErrRange {
			t.Errorf("at %v: %d %d %v", p, u, v, e)
		}
		if n := m.Under(p.px, p.py, p.d); n != 0 {
			t.Errorf("Under at %v: %d", p, n)
		}
	}
	for _, p := range append(wrong(), places()...) {
		if u, v, e := none.At(p.px, p.py, p.d); u != 0 || v != 0 || e != api.ErrArg {
			t.Errorf("none at %v: %d %d %v", p, u, v, e)
		}
		if n := none.Under(p.px, p.py, p.d); n != 0 {
			t.Errorf("Under of none at %v: %d", p, n)
		}
	}
	if a, b, c := none.Lines(); a != [3]int64{} || b != [3]int64{} || c != [3]int64{} {
		t.Error("Lines of none:", a, b, c)
	}
}

func TestP19_4_LinesAndUnder(t *testing.T) {
	for _, v := range views() {
		m, a := made(t, v), adjugate(v.c)
		k, l, u := m.Lines()
		for i, n := range slices.Concat(k[:], l[:], u[:]) {
			if a[i].Cmp(big.NewInt(n)) != 0 {
				t.Fatalf("Lines of %v: number %d: %d, not %v", v, i, n, a[i])
			}
		}
		for _, p := range places() {
			if n, want := m.Under(p.px, p.py, p.d), put(a[6:], p); want.Cmp(big.NewInt(n)) != 0 {
				t.Fatalf("Under of %v at %v: %d, not %v", v, p, n, want)
			}
		}
	}
}

func TestP19_4_OneSign(t *testing.T) {
	for _, v := range views() {
		m := made(t, v)
		first := m.Under(-1, -1, 2) > 0
		stepX, stepY := max(1, v.w/20), max(1, v.h/20)
		for x := -1; x <= 2*v.w-1; x += stepX {
			for y := -1; y <= 2*v.h-1; y += stepY {
				n := m.Under(int64(x), int64(y), 2)
				if n == 0 || n > 0 != first {
					t.Fatalf("Under of %v at %d, %d: %d", v, x, y, n)
				}
				if _, _, e := m.At(int64(x), int64(y), 2); e != api.OK {
					t.Fatalf("%v at %d, %d: %v", v, x, y, e)
				}
			}
		}
	}
}

func TestP19_5_Of(t *testing.T) {
	for n := range 12 {
		if c := homog.Of(slices.Repeat([]int64{one}, n)); (n == 6) != (len(c) == 9) || n != 6 && len(c) != 0 {
			t.Errorf("Of %d numbers: %v", n, c)
		}
	}
	if c := homog.Of(nil); len(c) != 0 {
		t.Error("Of none:", c)
	}
	backing := []int64{1, 2, 3, 4, 5, 6, 7, 8, 9, 10}
	c := homog.Of(backing[:6])
	if fmt.Sprint(c) != "[1 2 3 4 5 6 0 0 65536]" {
		t.Error(c)
	}
	clear(c)
	if fmt.Sprint(backing) != "[1 2 3 4 5 6 7 8 9 10]" {
		t.Error("Of has written into what it was given:", backing)
	}
}

func TestP19_5_TheSameMap(t *testing.T) {
	for _, c := range [][]int64{
		{one, 0, 0, 0, one, 0}, {2 * one, 0, 7, 0, 3 * one, -9}, {0, -one, one, one, 0, 5}, {-one, 3, 9, 5, -one, 1}, {3, 5, 7, 11, 13, 17}, {2, 3, 9, 3, 4, -9},
		{1, 0, move, 0, 1, -move}, {coef, -coef, -move, coef, coef, move}, {coef, coef - 1, move, coef - 1, coef - 2, -move}, {one, one / 3, -one * 500, -one / 7, one, one * 300},
	} {
		a, e1 := affine.New(c)
		m, e2 := homog.New(homog.Of(c), 100, 32768)
		if e1 != api.OK || e2 != api.OK {
			t.Fatal(c, e1, e2)
		}
		for _, p := range places() {
			u, v, _ := a.At(p.px, p.py, p.d)
			if x, y, e := m.At(p.px, p.py, p.d); x != u || y != v || e != api.OK {
				t.Fatalf("%v at %v: %d %d %v, not %d %d", c, p, x, y, e, u, v)
			}
		}
	}
}

// P2: a map is what it was made of, whatever is written there later, and changes nothing of it.
func TestP2_Memory(t *testing.T) {
	for _, v := range views() {
		kept := slices.Clone(v.c)
		m := made(t, v)
		told := func() string {
			k, l, n := m.Lines()
			u, y, e := m.At(3, -5, 7)
			return fmt.Sprint(k, l, n, u, y, e, m.Under(1, 1, 1))
		}
		before := told()
		if homog.Check(v.c, v.w, v.h); !slices.Equal(v.c, kept) {
			t.Fatalf("%v is now %v", kept, v.c)
		}
		clear(v.c)
		if after := told(); after != before {
			t.Fatalf("%v: %s, then %s", kept, before, after)
		}
	}
}

// every is what all calls tell.
func every(m *homog.Map, v view, p place) string {
	u, w, e := m.At(p.px, p.py, p.d)
	k, l, n := m.Lines()
	made, code := homog.New(v.c, v.w, v.h)
	return fmt.Sprint(u, w, e, k, l, n, m.Under(p.px, p.py, p.d), made.Under(1, 2, 3), code, homog.Check(v.c, v.w, v.h), homog.Of(v.c[:min(len(v.c), 6)]))
}

// P1 and P2: all end at all edges, wrong ones too, and tell the same again, whatever was called between.
func TestP1_P2_TheSameAgain(t *testing.T) {
	l, all := views()[:40], append(places(), wrong()...)
	l = append(l, view{nil, 1, 1}, view{[]int64{1}, 0, 0}, view{make([]int64, 9), 5, 5}, view{l[0].c, math.MinInt, math.MaxInt}, view{l[3].c, 32768, 32768})
	var kept []*homog.Map
	for _, v := range l {
		m, _ := homog.New(v.c, v.w, v.h)
		kept = append(kept, m)
	}
	told := func(i int) string { return every(kept[i%len(l)], l[i*7%len(l)], all[i*11%len(all)]) }
	var first []string
	for i := range 20000 {
		first = append(first, told(i))
	}
	for i := len(first) - 1; i >= 0; i-- {
		if again := told(i); again != first[i] {
			t.Fatalf("%d: %s, then %s", i, first[i], again)
		}
	}
}
