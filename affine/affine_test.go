package affine_test

import (
	"fmt"
	"math"
	"math/big"
	"slices"
	"testing"

	"anamorph/affine"
	"anamorph/api"
)

const (
	coef = 1 << 24
	move = 1 << 31
	one  = 65536
	far  = 1 << 46
	end  = 1 << 20
)

// limits are how far from 0 each number may be.
var limits = []int64{coef, coef, move, coef, coef, move}

// maps are right ones: plain ones, turned and mirrored ones, some with determinants of 1 and -1, and such as lie at the ends.
func maps() [][]int64 {
	l := [][]int64{
		{one, 0, 0, 0, one, 0}, {2 * one, 0, 0, 0, 2 * one, 0}, {one, 0, 2 * one, 0, one, -3 * one}, {one, 0, 1, 0, one, -1},
		{0, -one, 0, one, 0, 0}, {-one, 0, 0, 0, one, 0}, {-one, 0, 5, 0, -one, -7}, {0, one, 0, one, 0, 0}, {one, one / 2, 0, 0, one, 0},
		{1, 0, 0, 0, 1, 0}, {-1, 0, 0, 0, 1, 0}, {1, 0, move, 0, 1, -move}, {1, 0, -move, 0, -1, move}, {0, 1, 1, 1, 0, -1}, {2, 1, 0, 1, 1, 0}, {2, 3, 9, 3, 4, -9},
		{coef, coef, move, -coef, coef, -move}, {coef, -coef, -move, coef, coef, move}, {-coef, coef, move, coef, coef, move}, {-coef, -coef, -move, coef, -coef, -move},
		{coef, 0, move, 0, coef, move}, {coef, coef - 1, move, coef - 1, coef - 2, -move}, {coef, coef - 1, -move, coef, coef, move - 1}, {3, 5, 7, 11, 13, 17},
		{one + 1, 7, 123456789, -13, one - 3, -987654321}, {one * 3 / 4, one / 3, 0, -one / 3, one * 3 / 4, 0},
	}
	x := uint64(5)
	for n := range 40 { // and some without any pattern, of all sizes
		c := make([]int64, 6)
		for i := range c {
			x = x*6364136223846793005 + 1442695040888963407
			c[i] = int64(x>>33)%(limits[i]+1)>>(n%20) - limits[i]>>(n%20+1)
		}
		if c[0]*c[4] != c[1]*c[3] {
			l = append(l, c)
		}
	}
	return l
}

// place is px divided by d, py divided by d.
type place struct{ px, py, d int64 }

// places are right ones.
func places() []place {
	l := []place{{end, end, 1}, {-end, -end, 1}, {end, -end, 16}, {-end, end, 16}, {end, 0, 3}, {0, -end, 7}, {16384, 0, 1}, {16385, 0, 1}, {-16384, 16384, 1}, {-16385, 16385, 1}}
	for _, d := range []int64{1, 2, 3, 7, 15, 16} {
		for _, px := range []int64{0, 1, -1, 2, -3, 5, -7, 16, 99, -100, 32767} {
			for _, py := range []int64{0, 1, -1, 4, -8, 17, -1000, 32767} {
				l = append(l, place{px, py, d})
			}
		}
	}
	return l
}

// wrong are places that aren't right.
func wrong() []place {
	l := []place{{0, 0, 0}, {0, 0, -1}, {0, 0, 17}, {0, 0, -16}, {1, 1, math.MinInt64}, {1, 1, math.MaxInt64}}
	for _, p := range []int64{end + 1, -end - 1, 1 << 32, math.MinInt64, math.MaxInt64} {
		l = append(l, place{p, 0, 1}, place{0, p, 1}, place{p, p, 16}, place{p, -p, 0})
	}
	return l
}

// sum is products added up; each is of as many numbers as there are.
func sum(products ...[]int64) *big.Int {
	s := new(big.Int)
	for _, l := range products {
		p := big.NewInt(1)
		for _, x := range l {
			p.Mul(p, big.NewInt(x))
		}
		s.Add(s, p)
	}
	return s
}

// told is a quotient in parts, rounded down and cut.
func told(a *big.Int, b *big.Int) int64 {
	a = new(big.Int).Mul(a, big.NewInt(one))
	if b.Sign() < 0 {
		a.Neg(a)
		b = new(big.Int).Neg(b)
	}
	q := a.Div(a, b) // of a divisor above 0 Div rounds down
	if q.CmpAbs(big.NewInt(far)) > 0 {
		return int64(q.Sign()) * far
	}
	return q.Int64()
}

// want is where a place comes from, as the document tells it.
func want(c []int64, p place) (int64, int64) {
	x := sum([]int64{one, p.px}, []int64{-1, c[2], p.d})
	y := sum([]int64{one, p.py}, []int64{-1, c[5], p.d})
	part := func(k, l int64) *big.Int {
		a := new(big.Int).Mul(big.NewInt(k), x)
		return a.Add(a, new(big.Int).Mul(big.NewInt(l), y))
	}
	det := sum([]int64{c[0], c[4], p.d}, []int64{-1, c[1], c[3], p.d})
	return told(part(c[4], -c[1]), det), told(part(-c[3], c[0]), det)
}

// made is a right map.
func made(t *testing.T, c []int64) *affine.Map {
	t.Helper()
	m, e := affine.New(c)
	if m == nil || e != api.OK {
		t.Fatalf("New(%v): %v", c, e)
	}
	return m
}

// refused checks the code of numbers that aren't right.
func refused(t *testing.T, c []int64, want api.Errno) {
	t.Helper()
	if e := affine.Check(c); e != want {
		t.Errorf("Check(%v): %v, not %v", c, e, want)
	}
	if m, e := affine.New(c); m != nil || e != want {
		t.Errorf("New(%v): %v %v, not %v", c, m, e, want)
	}
}

func TestP18_1_Right(t *testing.T) {
	for _, c := range maps() {
		if e := affine.Check(c); e != api.OK {
			t.Errorf("Check(%v): %v", c, e)
		}
		m := made(t, c)
		if det := sum([]int64{c[0], c[4]}, []int64{-1, c[1], c[3]}).Int64(); m.Det() != det {
			t.Errorf("Det of %v: %d, not %d", c, m.Det(), det)
		}
	}
	var none *affine.Map
	if none.Det() != 0 {
		t.Error("Det of none")
	}
}

func TestP18_1_Size(t *testing.T) {
	for n := range 20 {
		c := slices.Repeat([]int64{math.MaxInt64}, n)
		if n != 6 {
			refused(t, c, api.ErrSize)
			refused(t, make([]int64, n), api.ErrSize)
		}
	}
	refused(t, nil, api.ErrSize)
	refused(t, []int64{one, 0, 0, 0, one}, api.ErrSize)
	refused(t, []int64{one, 0, 0, 0, one, 0, 0}, api.ErrSize)
}

func TestP18_1_Range(t *testing.T) {
	for i, most := range limits {
		for _, x := range []int64{most, -most, most - 1, 1 - most} {
			c := []int64{one, 0, 0, 0, one, 0}
			c[i] = x
			if e := affine.Check(c); e != api.OK {
				t.Errorf("Check(%v): %v", c, e)
			}
			made(t, c)
		}
		for _, x := range []int64{most + 1, -most - 1, 1 << 40, math.MinInt64, math.MaxInt64, math.MinInt64 + 1} {
			for _, c := range [][]int64{{one, 0, 0, 0, one, 0}, {0, 0, 0, 0, 0, 0}, {1, 1, 1, 1, 1, 1}} {
				c[i] = x
				refused(t, c, api.ErrRange)
			}
		}
	}
}

func TestP18_1_Singular(t *testing.T) {
	for _, c := range [][]int64{
		{0, 0, 0, 0, 0, 0}, {one, one, 0, one, one, 0}, {one, 0, 1, 0, 0, 1}, {0, 0, 5, 0, one, 5}, {2, 3, move, 4, 6, -move}, {-2, 3, 0, 4, -6, 0},
		{coef, coef, 0, coef, coef, 0}, {coef, -coef, move, -coef, coef, move}, {0, coef, 0, 0, coef, 0}, {1, 1, 0, -1, -1, 0},
	} {
		refused(t, c, api.ErrSingular)
	}
}

func TestP18_2_ByHand(t *testing.T) {
	for _, c := range []struct {
		c    []int64
		p    place
		u, v int64
	}{
		{[]int64{2 * one, 0, 0, 0, 2 * one, 0}, place{3, 4, 1}, 98304, 131072},
		{[]int64{3 * one, 0, 0, 0, -3 * one, 0}, place{1, 1, 1}, 21845, -21846}, // thirds, rounded down on both sides
		{[]int64{-3 * one, 0, 0, 0, 3 * one, 0}, place{1, -1, 1}, -21846, -21846},
		{[]int64{one, 0, one, 0, one, -one}, place{5, 5, 1}, 4 * one, 6 * one},
		{[]int64{one, 0, 1, 0, one, -1}, place{1, 1, 2}, one/2 - 1, one/2 + 1},
		{[]int64{0, -one, 0, one, 0, 0}, place{3, 4, 1}, 4 * one, -3 * one}, // 4, -3 comes to 3, 4
		{[]int64{one, one, 0, 0, one, 0}, place{5, 2, 1}, 3 * one, 2 * one},
		{[]int64{one, 0, 0, one, one, 0}, place{5, 2, 1}, 5 * one, -3 * one},
		{[]int64{1, 0, 0, 0, 1, 0}, place{16383, 16384, 1}, far - one*one, far},
		{[]int64{1, 0, 0, 0, 1, 0}, place{16385, -16384, 1}, far, -far},
		{[]int64{1, 0, 0, 0, 1, 0}, place{-16385, end, 1}, -far, far},
		{[]int64{1, 0, 1, 0, 1, -1}, place{16384, -16384, 1}, far - one, one - far},
		{[]int64{1, 0, -1, 0, 1, 1}, place{16384, -16384, 1}, far, -far},
	} {
		u, v, e := made(t, c.c).At(c.p.px, c.p.py, c.p.d)
		if u != c.u || v != c.v || e != api.OK {
			t.Errorf("%v at %v: %d %d %v, not %d %d", c.c, c.p, u, v, e, c.u, c.v)
		}
	}
}

func TestP18_2_At(t *testing.T) {
	for _, c := range maps() {
		m := made(t, c)
		for _, p := range places() {
			u, v, e := m.At(p.px, p.py, p.d)
			if x, y := want(c, p); u != x || v != y || e != api.OK {
				t.Fatalf("%v at %v: %d %d %v, not %d %d", c, p, u, v, e, x, y)
			}
		}
	}
}

// What has come to a whole place comes from there.
func TestP18_2_BackAgain(t *testing.T) {
	for _, k := range [][6]int64{{1, 0, 0, 0, 1, 0}, {2, 1, -3, 1, 1, 4}, {0, -1, 7, 1, 0, -7}, {3, -5, 100, 7, 2, -1}, {-256, 255, 32767, 255, 256, -32768}} {
		var c []int64
		for _, n := range k {
			c = append(c, n*one)
		}
		m := made(t, c)
		for x := int64(-20); x <= 20; x++ {
			for y := int64(-20); y <= 20; y++ {
				u, v, e := m.At(k[0]*x+k[1]*y+k[2], k[3]*x+k[4]*y+k[5], 1)
				if u != x*one || v != y*one || e != api.OK {
					t.Fatalf("%v: %d %d comes from %d %d %v", c, x, y, u, v, e)
				}
			}
		}
	}
}

func TestP18_2_WrongOnes(t *testing.T) {
	var none *affine.Map
	m := made(t, []int64{one, 0, 5, 0, one, 9})
	for _, p := range wrong() {
		if u, v, e := m.At(p.px, p.py, p.d); u != 0 || v != 0 || e != api.ErrRange {
			t.Errorf("at %v: %d %d %v", p, u, v, e)
		}
		if u, v, e := none.At(p.px, p.py, p.d); u != 0 || v != 0 || e != api.ErrArg {
			t.Errorf("none at %v: %d %d %v", p, u, v, e)
		}
	}
	for _, p := range places() {
		if u, v, e := none.At(p.px, p.py, p.d); u != 0 || v != 0 || e != api.ErrArg {
			t.Errorf("none at %v: %d %d %v", p, u, v, e)
		}
	}
}

func TestP18_3_Lines(t *testing.T) {
	for _, c := range maps() {
		m := made(t, c)
		k, l := m.Lines()
		wide := [6]*big.Int{
			sum([]int64{one, c[4]}), sum([]int64{-one, c[1]}), sum([]int64{c[1], c[5]}, []int64{-1, c[4], c[2]}),
			sum([]int64{-one, c[3]}), sum([]int64{one, c[0]}), sum([]int64{c[3], c[2]}, []int64{-1, c[0], c[5]}),
		}
		for i, n := range slices.Concat(k[:], l[:]) {
			if wide[i].Cmp(big.NewInt(n)) != 0 {
				t.Fatalf("Lines of %v: number %d: %d, not %v", c, i, n, wide[i])
			}
		}
		for _, p := range places() {
			under := sum([]int64{m.Det(), p.d})
			x := told(sum([]int64{k[0], p.px}, []int64{k[1], p.py}, []int64{k[2], p.d}), under)
			y := told(sum([]int64{l[0], p.px}, []int64{l[1], p.py}, []int64{l[2], p.d}), under)
			if u, v, _ := m.At(p.px, p.py, p.d); u != x || v != y {
				t.Fatalf("%v at %v: %d %d, by Lines %d %d", c, p, u, v, x, y)
			}
		}
	}
	var none *affine.Map
	if k, l := none.Lines(); k != [3]int64{} || l != [3]int64{} {
		t.Error("Lines of none:", k, l)
	}
}

func TestP18_4_Unit(t *testing.T) {
	m := made(t, affine.Unit())
	for _, p := range places() {
		x, y := told(big.NewInt(p.px), big.NewInt(p.d)), told(big.NewInt(p.py), big.NewInt(p.d))
		if u, v, e := m.At(p.px, p.py, p.d); u != x || v != y || e != api.OK {
			t.Fatalf("Unit at %v: %d %d %v", p, u, v, e)
		}
	}
	if fmt.Sprint(affine.Unit()) != "[65536 0 0 0 65536 0]" {
		t.Error(affine.Unit())
	}
	clear(affine.Unit())
	made(t, affine.Unit())
}

func TestP18_4_Move(t *testing.T) {
	for _, by := range [][2]int64{{0, 0}, {1, -1}, {one, 2 * one}, {-5, 70000}, {move, -move}, {-move, move}} {
		c := affine.Move(by[0], by[1])
		if fmt.Sprint(c) != fmt.Sprint([]int64{one, 0, by[0], 0, one, by[1]}) {
			t.Errorf("Move(%v): %v", by, c)
		}
		m := made(t, c)
		for _, p := range places() {
			x, y := told(big.NewInt(p.px), big.NewInt(p.d)), told(big.NewInt(p.py), big.NewInt(p.d))
			if u, v, e := m.At(p.px, p.py, p.d); u != x-by[0] || v != y-by[1] || e != api.OK {
				t.Fatalf("Move(%v) at %v: %d %d %v", by, p, u, v, e)
			}
		}
		clear(c)
		if again := affine.Move(by[0], by[1]); again[0] != one {
			t.Errorf("Move(%v), again: %v", by, again)
		}
	}
}

// P2: a map is what it was made of, whatever is written there later, and changes nothing of it.
func TestP2_Memory(t *testing.T) {
	for _, c := range maps() {
		kept := slices.Clone(c)
		m := made(t, c)
		told := func() string {
			k, l := m.Lines()
			u, v, e := m.At(3, -5, 7)
			return fmt.Sprint(k, l, u, v, e, m.Det())
		}
		before := told()
		if affine.Check(c); !slices.Equal(c, kept) {
			t.Fatalf("%v is now %v", kept, c)
		}
		clear(c)
		if after := told(); after != before {
			t.Fatalf("%v: %s, then %s", kept, before, after)
		}
	}
}

// every is what all calls tell.
func every(m *affine.Map, c []int64, p place) string {
	u, v, e := m.At(p.px, p.py, p.d)
	k, l := m.Lines()
	made, code := affine.New(c)
	return fmt.Sprint(u, v, e, k, l, m.Det(), made.Det(), code, affine.Check(c), affine.Unit(), affine.Move(p.px, p.py))
}

// P1 and P2: all end at all edges, wrong ones too, and tell the same again, whatever was called between.
func TestP1_P2_TheSameAgain(t *testing.T) {
	l, all := maps(), append(places(), wrong()...)
	l = append(l, nil, []int64{1}, []int64{0, 0, 0, 0, 0, 0}, []int64{math.MinInt64, 0, 0, 0, math.MinInt64, 0})
	var kept []*affine.Map
	for _, c := range l {
		m, _ := affine.New(c)
		kept = append(kept, m)
	}
	told := func(i int) string { return every(kept[i%len(l)], l[i*7%len(l)], all[i*11%len(all)]) }
	var first []string
	for i := range 20000 {
		first = append(first, told(i))
	}
	for i := len(first) - 1; i >= 0; i-- {
		if again := told(i); again != first[i] {
			t.Fatalf("%d: %s, then %s", i, first[i], again)
		}
	}
}
