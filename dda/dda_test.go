package dda_test

import (
	"fmt"
	"math"
	"math/big"
	"slices"
	"testing"

	"anamorph/affine"
	"anamorph/api"
	"anamorph/dda"
)

const (
	coef = 1 << 24
	move = 1 << 31
	one  = 65536
	far  = 1 << 46
	end  = 1 << 20
)

// limits are how far from 0 each number may be.
var limits = []int64{coef, coef, move, coef, coef, move}

// edges are numbers at the ends of an int64, and others that are too great for any place.
var edges = []int64{math.MinInt64, math.MinInt64 + 1, -1 << 32, -end - 2, -end - 1, end + 1, end + 2, 1 << 32, math.MaxInt64 - 1, math.MaxInt64}

// maps are right ones: plain ones, turned and mirrored ones, some that are divided by numbers below 0, by 1 and by -1, and such as lie at the ends.
func maps() [][]int64 {
	l := [][]int64{
		{one, 0, 0, 0, one, 0}, {2 * one, 0, 0, 0, 2 * one, 0}, {one, 0, 2 * one, 0, one, -3 * one}, {one, 0, 1, 0, one, -1},
		{0, -one, 0, one, 0, 0}, {-one, 0, 0, 0, one, 0}, {-one, 0, 5, 0, -one, -7}, {0, one, 0, one, 0, 0}, {one, one / 2, 0, 0, one, 0},
		{1, 0, 0, 0, 1, 0}, {-1, 0, 0, 0, 1, 0}, {1, 0, move, 0, 1, -move}, {1, 0, -move, 0, -1, move}, {0, 1, 1, 1, 0, -1}, {2, 1, 0, 1, 1, 0}, {2, 3, 9, 3, 4, -9},
		{coef, coef, move, -coef, coef, -move}, {coef, -coef, -move, coef, coef, move}, {-coef, coef, move, coef, coef, move}, {-coef, -coef, -move, coef, -coef, -move},
		{coef, 0, move, 0, coef, move}, {coef, coef - 1, move, coef - 1, coef - 2, -move}, {coef, coef - 1, -move, coef, coef, move - 1}, {3, 5, 7, 11, 13, 17},
		{one + 1, 7, 123456789, -13, one - 3, -987654321}, {one * 3 / 4, one / 3, 0, -one / 3, one * 3 / 4, 0},
		{3, 0, 0, 0, 1, 0}, {-3, 0, 1, 0, 1, 2}, {7, 1, 0, 0, -1, 5}, {10, 1, 3, 3, 1, -4}, {1, 3, 3, 3, 2, -4}, // such by which few numbers can be left over
		{3 * one, 0, 0, 0, one, 0}, {-3 * one, 0, one, one, -one, 0}, {coef, 1, 0, -1, coef, 0}, {1, coef, 0, coef, 1, 0},
	}
	x := uint64(7)
	for n := range 40 { // and some without any pattern, of all sizes
		c := make([]int64, 6)
		for i := range c {
			x = x*6364136223846793005 + 1442695040888963407
			c[i] = int64(x>>33)%(limits[i]+1)>>(n%20) - limits[i]>>(n%20+1)
		}
		if c[0]*c[4] != c[1]*c[3] {
			l = append(l, c)
		}
	}
	return l
}

// wrong are numbers of no map, each with its code.
func wrong() map[api.Errno][][]int64 {
	l := map[api.Errno][][]int64{
		api.ErrSize:     {nil, {}, {one}, {one, 0, 0, 0, one}, {one, 0, 0, 0, one, 0, 0}, {math.MaxInt64, 0, 0, 0, 0, 0, 0}},
		api.ErrSingular: {make([]int64, 6), {one, 0, 0, 0, 0, 0}, {2, 4, 1, 1, 2, 1}, {coef, coef, move, coef, coef, move}},
	}
	for i, most := range limits {
		for _, x := range []int64{most + 1, -most - 1, math.MinInt64, math.MaxInt64} {
			c := affine.Unit()
			c[i] = x
			l[api.ErrRange] = append(l[api.ErrRange], c)
		}
	}
	return l
}

// starts are places at which a walk may begin.
func starts() [][2]int64 {
	return [][2]int64{{0, 0}, {3, 4}, {-5, -7}, {-end, -end}, {-end, end}, {end, -end}, {end - 3, end}, {end, end}, {1000, -999}, {-32768, 32767}, {end - 30, 1}, {16383, 0}, {-16385, 0}}
}

// sum is products of three numbers each, added up.
func sum(products ...[3]int64) *big.Int {
	s := new(big.Int)
	for _, l := range products {
		p := big.NewInt(l[0])
		s.Add(s, p.Mul(p, big.NewInt(l[1])).Mul(p, big.NewInt(l[2])))
	}
	return s
}

// told is a quotient in parts, rounded down and cut, and what is left over, both taken so that the divisor is above 0.
func told(a, b *big.Int) (int64, *big.Int) {
	a = new(big.Int).Mul(a, big.NewInt(one))
	if b.Sign() < 0 {
		a.Neg(a)
		b = new(big.Int).Neg(b)
	}
	q, rest := new(big.Int).DivMod(a, b, new(big.Int)) // of a divisor above 0 it rounds down
	if q.CmpAbs(big.NewInt(far)) > 0 {
		return int64(q.Sign()) * far, rest
	}
	return q.Int64(), rest
}

// want is where a pixel comes from, as the document tells it of layer 18.
func want(c []int64, x, y int64) (int64, int64) {
	det := sum([3]int64{c[0], c[4], 1}, [3]int64{-1, c[1], c[3]})
	u, _ := told(sum([3]int64{c[4], one, x}, [3]int64{-1, c[4], c[2]}, [3]int64{-c[1], one, y}, [3]int64{c[1], c[5], 1}), det)
	v, _ := told(sum([3]int64{c[0], one, y}, [3]int64{-1, c[0], c[5]}, [3]int64{-c[3], one, x}, [3]int64{c[3], c[2], 1}), det)
	return u, v
}

// made is a walk.
func made(t *testing.T, c []int64, x, y int64) *dda.Walk {
	t.Helper()
	w, e := dda.New(c, x, y)
	if w == nil || e != api.OK {
		t.Fatalf("New(%v, %d, %d): %v", c, x, y, e)
	}
	return w
}

// next checks where the column comes from at which a walk must stand, and that it goes on.
func next(t *testing.T, w *dda.Walk, c []int64, x, y int64) {
	t.Helper()
	if w.X() != x {
		t.Fatalf("%v, row %d: it stands at %d, not %d", c, y, w.X(), x)
	}
	u, v, is := w.Next()
	i, k := want(c, x, y)
	if u != i || v != k || !is {
		t.Fatalf("%v, column %d, row %d: %d %d %v, not %d %d", c, x, y, u, v, is, i, k)
	}
	if w.X() != x+1 {
		t.Fatalf("%v, row %d: behind %d it stands at %d", c, y, x, w.X())
	}
}

// ended checks that a walk stands beyond all that may be asked for, and stays there.
func ended(t *testing.T, w *dda.Walk) {
	t.Helper()
	for range 3 {
		if u, v, is := w.Next(); u != 0 || v != 0 || is || w.X() != end+1 {
			t.Fatalf("beyond all: %d %d %v, at %d", u, v, is, w.X())
		}
	}
}

func TestP34_1_New(t *testing.T) {
	for _, c := range maps() {
		for _, s := range starts() {
			if w := made(t, c, s[0], s[1]); w.X() != s[0] {
				t.Errorf("New(%v, %d, %d) stands at %d", c, s[0], s[1], w.X())
			}
		}
	}
}

func TestP34_1_Wrong(t *testing.T) {
	refused := func(c []int64, x, y int64, want api.Errno) {
		t.Helper()
		if w, e := dda.New(c, x, y); w != nil || e != want {
			t.Errorf("New(%v, %d, %d): %v %v, not %v", c, x, y, w, e, want)
		}
	}
	for code, l := range wrong() {
		for _, c := range l {
			refused(c, 0, 0, code)
			refused(c, end+1, 0, code)
			refused(c, math.MinInt64, math.MaxInt64, code)
		}
	}
	for _, c := range maps() {
		for _, x := range edges {
			refused(c, x, 0, api.ErrRange)
			refused(c, 0, x, api.ErrRange)
			refused(c, end, x, api.ErrRange)
			refused(c, x, -end, api.ErrRange)
			refused(c, x, x, api.ErrRange)
		}
	}
}

func TestP34_None(t *testing.T) {
	var w *dda.Walk
	for range 2 {
		if u, v, is := w.Next(); u != 0 || v != 0 || is {
			t.Errorf("Next of none: %d %d %v", u, v, is)
		}
		for _, n := range append([]int64{0, 1, -1}, edges...) {
			if w.Skip(n) {
				t.Errorf("Skip(%d) of none", n)
			}
		}
		if w.X() != 0 {
			t.Errorf("X of none: %d", w.X())
		}
	}
}

func TestP34_2_Next(t *testing.T) {
	for _, c := range maps() {
		for _, s := range starts() {
			w := made(t, c, s[0], s[1])
			for x := s[0]; x < s[0]+40 && x <= end; x++ {
				next(t, w, c, x, s[1])
			}
		}
	}
}

func TestP34_2_ByHand(t *testing.T) {
	for _, h := range []struct {
		c    []int64
		x, y int64
		want [][2]int64
	}{
		{[]int64{one, 0, 0, 0, one, 0}, 3, 4, [][2]int64{{196608, 262144}, {262144, 262144}}},
		{[]int64{3 * one, 0, 0, 0, one, 0}, 0, 1, [][2]int64{{0, one}, {21845, one}, {43690, one}, {one, one}, {87381, one}}},
		{[]int64{-3 * one, 0, 0, 0, one, 0}, 0, 1, [][2]int64{{0, one}, {-21846, one}, {-43691, one}, {-one, one}, {-87382, one}}},
		{[]int64{-3 * one, 0, 0, 0, one, 0}, -2, 0, [][2]int64{{43690, 0}, {21845, 0}, {0, 0}, {-21846, 0}}},
		{[]int64{0, one, 0, -3 * one, 0, 5}, -1, 2, [][2]int64{{-43689, -one}, {-43689, 0}, {-43689, one}}},
		{[]int64{1, 0, 0, 0, 1, 0}, 16382, -1, [][2]int64{{16382 << 32, -1 << 32}, {16383 << 32, -1 << 32}, {far, -1 << 32}, {far, -1 << 32}}},
		{[]int64{-1, 0, 0, 0, 1, 0}, 16383, 1, [][2]int64{{-16383 << 32, 1 << 32}, {-far, 1 << 32}, {-far, 1 << 32}}},
		{[]int64{1, 0, move, 0, 1, -move}, -1, 0, [][2]int64{{-far, far}, {-far, far}}},
		{[]int64{1, 0, move, 0, 1, 0}, 16384, 0, [][2]int64{{-16384 << 32, 0}, {-16383 << 32, 0}}}, // what was cut comes back
		{[]int64{one, 0, 1, 0, one, 0}, -1, 0, [][2]int64{{-65537, 0}, {-1, 0}, {65535, 0}}},
	} {
		w := made(t, h.c, h.x, h.y)
		for i, p := range h.want {
			if u, v, is := w.Next(); u != p[0] || v != p[1] || !is {
				t.Errorf("%v, from %d, %d on, %d: %d %d %v, not %v", h.c, h.x, h.y, i, u, v, is, p)
			}
		}
	}
}

func TestP34_2_End(t *testing.T) {
	for _, c := range maps() {
		for _, x := range []int64{end - 4, end - 1, end} {
			w := made(t, c, x, 9)
			for ; x <= end; x++ {
				next(t, w, c, x, 9)
			}
			ended(t, w)
		}
	}
}

func TestP34_3_Skip(t *testing.T) {
	for _, c := range maps() {
		for _, s := range starts() {
			for _, n := range []int64{0, 1, 2, 3, 7, 100, 16384, end - s[0] - 1, end - s[0]} {
				if n < 0 || s[0]+n > end {
					continue
				}
				w := made(t, c, s[0], s[1])
				if !w.Skip(n) || w.X() != s[0]+n {
					t.Fatalf("%v, from %d on: Skip(%d) stands at %d", c, s[0], n, w.X())
				}
				for x := s[0] + n; x <= min(s[0]+n+2, end); x++ {
					next(t, w, c, x, s[1])
				}
			}
		}
	}
}

func TestP34_3_Wrong(t *testing.T) {
	for _, c := range maps() {
		for _, s := range starts() {
			w := made(t, c, s[0], s[1])
			w.Next()
			x := s[0] + 1
			room := end + 1 - x
			for _, n := range []int64{-1, -2, -x, -end, room + 1, room + 2, math.MaxInt64, math.MaxInt64 - x, math.MinInt64, math.MinInt64 + 1, 1 << 32, 1<<63 - end, -1 << 32} {
				if (n < 0 || n > room) && (w.Skip(n) || w.X() != x) {
					t.Fatalf("%v, from %d on: Skip(%d) stands at %d", c, x, n, w.X())
				}
			}
			if x <= end {
				next(t, w, c, x, s[1])
			}
		}
	}
}

func TestP34_3_End(t *testing.T) {
	for _, x := range []int64{-end, -1, 0, end - 1, end} {
		w := made(t, affine.Unit(), x, 5)
		if w.Skip(end + 2 - x) {
			t.Errorf("from %d on: Skip goes too far", x)
		}
		if !w.Skip(end+1-x) || w.X() != end+1 {
			t.Errorf("from %d on: it stands at %d", x, w.X())
		}
		ended(t, w)
		if !w.Skip(0) || w.Skip(1) || w.Skip(-1) || w.X() != end+1 {
			t.Errorf("beyond all: it stands at %d", w.X())
		}
		ended(t, w)
	}
}

func TestP34_4_LikeAffine(t *testing.T) {
	n := uint64(3)
	for _, c := range maps() {
		m, e := affine.New(c)
		if e != api.OK {
			t.Fatal(c, e)
		}
		for _, s := range starts() {
			w := made(t, c, s[0], s[1])
			for x := s[0]; x <= end; {
				u, v, is := w.Next()
				i, k, _ := m.At(x, s[1], 1)
				if u != i || v != k || !is {
					t.Fatalf("%v, column %d, row %d: %d %d %v, not %d %d", c, x, s[1], u, v, is, i, k)
				}
				n = n*6364136223846793005 + 1442695040888963407
				step := int64(n>>33) % 7 // mostly on to the next one; now and then a little further, or far away
				if step == 5 {
					step = int64(n>>37) % 40000
				}
				if step > 2 && !w.Skip(step) && x+step+1 <= end+1 {
					t.Fatalf("%v, at %d: no Skip(%d)", c, w.X(), step)
				}
				x = w.X()
				if x > s[0]+120000 {
					break
				}
			}
		}
	}
}

// Walked and skipped in whichever steps, the same is told, whatever is left over: 0, one less than the divisor, and all between.
func TestP34_4_LeftOver(t *testing.T) {
	for _, c := range [][]int64{{3, 0, 0, 0, 1, 0}, {-3, 0, 1, 0, 1, 2}, {7, 1, 0, 0, -1, 5}, {10, 1, 3, 3, 1, -4}, {1, 3, 3, 3, 2, -4}, {5, 2, -8, 1, 3, 9}, {-5, 2, 1, 1, 3, 0}} {
		det := sum([3]int64{c[0], c[4], 1}, [3]int64{-1, c[1], c[3]})
		last := new(big.Int).Sub(new(big.Int).Abs(det), big.NewInt(1))
		none, full := 0, 0
		for steps := range int64(14) {
			w := made(t, c, -9, 1)
			for x := int64(-9); x < 300; x += steps + 1 {
				next(t, w, c, x, 1)
				if !w.Skip(steps) {
					t.Fatal(steps)
				}
				_, rest := told(sum([3]int64{c[4], one, x}, [3]int64{-1, c[4], c[2]}, [3]int64{-c[1], one, 1}, [3]int64{c[1], c[5], 1}), det)
				if rest.Sign() == 0 {
					none++
				}
				if rest.Cmp(last) == 0 {
					full++
				}
			}
		}
		if none == 0 || full == 0 {
			t.Errorf("%v: nothing left over %d times, as much as can be %d times", c, none, full)
		}
	}
}

// P1 and P2: what is written into the numbers later changes nothing, nor does another walk; and the same is told again.
func TestP1_P2_TheSameAgain(t *testing.T) {
	for _, c := range maps() {
		for _, s := range starts() {
			own := slices.Clone(c)
			w, other := made(t, own, s[0], s[1]), made(t, c, s[0], s[1])
			if !slices.Equal(own, c) {
				t.Fatalf("New(%v) left %v", c, own)
			}
			clear(own)
			for range 9 {
				u, v, is := w.Next()
				beside := made(t, affine.Move(one, one), s[0], s[1])
				beside.Next()
				beside.Skip(1)
				if i, k, has := other.Next(); fmt.Sprint(u, v, is) != fmt.Sprint(i, k, has) || w.X() != other.X() {
					t.Fatalf("%v: %d %d %v, then %d %d %v", c, u, v, is, i, k, has)
				}
			}
		}
	}
}
