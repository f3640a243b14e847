package hdda_test

import (
	"fmt"
	"math"
	"math/big"
	"slices"
	"testing"

	"anamorph/api"
	"anamorph/hdda"
	"anamorph/homog"
)

const (
	coef = 1 << 24
	move = 1 << 31
	tilt = 1 << 12
	one  = 65536
	far  = 1 << 46
	end  = 1 << 20
)

// limits are how far from 0 each number may be.
var limits = []int64{coef, coef, move, coef, coef, move, tilt, tilt, coef}

// edges are numbers at the ends of an int64, and others that are too great for any place.
var edges = []int64{math.MinInt64, math.MinInt64 + 1, -1 << 32, -end - 2, -end - 1, end + 1, end + 2, 1 << 32, math.MaxInt64 - 1, math.MaxInt64}

// view is a map, for an image of a size.
type view struct {
	c    []int64
	w, h int
}

// views are right ones: plain ones, tilted ones, divided by numbers below 0, by 0 somewhere beyond the image, and such as lie at the ends.
func views() []view {
	l := []view{
		{[]int64{one, 0, 0, 0, one, 0, 0, 0, one}, 9, 9}, {[]int64{-one, 0, 0, 0, one, 0, 0, 0, one}, 9, 9}, {[]int64{one, 0, 0, 0, one, 0, 0, 0, -one}, 7, 3},
		{[]int64{one, 0, 0, 0, one, 0, -tilt, 0, one}, 32, 1}, {[]int64{one, 0, 0, 0, one, 0, tilt, 0, one}, 16, 5}, {[]int64{one, 0, 0, 0, one, 0, 0, tilt, one}, 5, 16},
		{[]int64{-one, 0, 0, 0, one, 0, -tilt, 0, one}, 16, 1}, {[]int64{one, 0, 0, 0, one, 0, 4, 0, one}, 9, 9}, {[]int64{one, 0, 0, 0, one, 0, tilt, tilt, one}, 8, 8},
		{[]int64{one, 0, 0, 0, one, 0, 100, -300, one}, 200, 300}, {[]int64{-one, 0, 0, 0, one, 0, 100, 300, one}, 40, 50}, {[]int64{0, one, 0, one, 0, 0, -7, 9, one}, 64, 65},
		{[]int64{one, 3000, 500000, -2000, one + 77, -900000, 13, -17, one - 5}, 99, 77}, {[]int64{-one, 1, -5 * one, 1, -one, 7 * one, 3, 5, -one}, 33, 22},
		{[]int64{coef, 0, move, 0, coef, -move, 0, 0, coef}, 32768, 32768}, {[]int64{coef, -coef, -move, coef, coef, move, 0, 0, -coef}, 1, 32768}, {[]int64{coef, coef, move, coef, -coef, move, tilt, tilt, -coef}, 9, 9},
		{[]int64{coef, 0, one, 0, coef, one, -tilt, -tilt, 0}, 12, 12}, {[]int64{coef, -coef, move, coef, coef, -move, tilt, tilt, coef}, 4, 4}, {[]int64{coef, 0, move, 0, coef, move, tilt, 0, 1}, 4095, 1},
		{[]int64{1, 0, 0, 0, 1, 0, 0, 0, coef}, 10, 10}, {[]int64{1, 0, move, 0, 1, move, 0, 0, 1}, 3, 3}, {[]int64{coef, 0, move, 0, coef, move, -tilt, -tilt, -coef}, 20, 20},
		{[]int64{5, 3, 9, 2, 4, 8, 0, 0, 1}, 5, 6}, {homog.Of([]int64{3, 5, 7, 11, 13, 17}), 5, 5}, {homog.Of([]int64{0, -one, 0, 3 * one, 0, 5}), 5, 5},
	}
	x := uint64(13)
	for n := range 400 { // and some without any pattern
		c := make([]int64, 9)
		for i := range c {
			x = x*6364136223846793005 + 1442695040888963407
			c[i] = int64(x>>33)%(limits[i]+1)>>(n%12) - limits[i]>>(n%12+1)
		}
		v := view{c, n%7 + 1, n%5 + 1}
		if homog.Check(c, v.w, v.h) == api.OK {
			l = append(l, v)
		}
	}
	return l
}

// starts are places at which a walk may begin.
func starts() [][2]int64 {
	return [][2]int64{{0, 0}, {3, 4}, {-5, -7}, {-end, -end}, {-end, end}, {end, -end}, {end - 3, end}, {end, end}, {1000, -999}, {-32768, 32767}, {-20, 0}, {-16400, 2}, {-40, -16}}
}

// under are three of the adjugate's numbers, of a row: what is divided by, and by how much it grows from column to column.
func under(c []int64, x, y int64) *big.Int {
	s := new(big.Int)
	for _, p := range [][3]int64{{c[3], c[7], x}, {-c[4], c[6], x}, {c[1], c[6], y}, {-c[0], c[7], y}, {c[0], c[4], 1}, {-c[1], c[3], 1}} {
		n := big.NewInt(p[0])
		s.Add(s, n.Mul(n, big.NewInt(p[1])).Mul(n, big.NewInt(p[2])))
	}
	return s
}

// made is a walk.
func made(t *testing.T, v view, x, y int64) *hdda.Walk {
	t.Helper()
	k, e := hdda.New(v.c, v.w, v.h, x, y)
	if k == nil || e != api.OK {
		t.Fatalf("New(%v, %d, %d): %v", v, x, y, e)
	}
	return k
}

// plane is a map of layer 19.
func plane(t *testing.T, v view) *homog.Map {
	t.Helper()
	m, e := homog.New(v.c, v.w, v.h)
	if e != api.OK {
		t.Fatal(v, e)
	}
	return m
}

// next checks what is told of the column at which a walk must stand, and that it goes on.
func next(t *testing.T, k *hdda.Walk, m *homog.Map, x, y int64) api.Errno {
	t.Helper()
	if k.X() != x {
		t.Fatalf("row %d: it stands at %d, not %d", y, k.X(), x)
	}
	u, v, e := k.Next()
	if i, j, code := m.At(x, y, 1); u != i || v != j || e != code {
		t.Fatalf("column %d, row %d: %d %d %v, not %d %d %v", x, y, u, v, e, i, j, code)
	}
	if k.X() != x+1 {
		t.Fatalf("row %d: behind %d it stands at %d", y, x, k.X())
	}
	return e
}

// ended checks that a walk stands beyond all that may be asked for, and stays there.
func ended(t *testing.T, k *hdda.Walk) {
	t.Helper()
	for range 3 {
		if u, v, e := k.Next(); u != 0 || v != 0 || e != api.ErrRange || k.X() != end+1 {
			t.Fatalf("beyond all: %d %d %v, at %d", u, v, e, k.X())
		}
	}
}

func TestP35_1_New(t *testing.T) {
	for _, v := range views() {
		for _, s := range starts() {
			if k := made(t, v, s[0], s[1]); k.X() != s[0] {
				t.Errorf("New(%v, %d, %d) stands at %d", v, s[0], s[1], k.X())
			}
		}
	}
}

func TestP35_1_Wrong(t *testing.T) {
	refused := func(v view, x, y int64, want api.Errno) {
		t.Helper()
		if k, e := hdda.New(v.c, v.w, v.h, x, y); k != nil || e != want {
			t.Errorf("New(%v, %d, %d): %v %v, not %v", v, x, y, k, e, want)
		}
	}
	unit := []int64{one, 0, 0, 0, one, 0, 0, 0, one}
	over := slices.Clone(unit)
	over[6] = tilt + 1
	for want, l := range map[api.Errno][]view{
		api.ErrSize:     {{nil, 1, 1}, {unit[:6], 1, 1}, {unit[:8], 0, 0}, {append(slices.Clone(unit), 0), 9, 9}},
		api.ErrRange:    {{over, 1, 1}, {over, 0, 1}, {[]int64{one, 0, move + 1, 0, one, 0, 0, 0, one}, 1, 1}},
		api.ErrLimit:    {{unit, 0, 1}, {unit, 1, 0}, {unit, 32769, 1}, {unit, 1, 32769}, {unit, math.MinInt, math.MaxInt}, {make([]int64, 9), 0, 0}},
		api.ErrSingular: {{make([]int64, 9), 1, 1}, {[]int64{1, 2, 3, 4, 5, 6, 7, 8, 9}, 9, 9}},
		api.ErrSign:     {{[]int64{one, 0, 0, 0, one, 0, tilt, 0, one}, 17, 1}, {[]int64{one, 0, 0, 0, one, 0, 0, tilt, one}, 1, 17}, {[]int64{2048, 0, 0, 0, one, 0, -tilt, 0, one}, 5, 5}},
	} {
		for _, v := range l {
			refused(v, 0, 0, want)
			refused(v, end+1, 0, want)
			refused(v, math.MinInt64, math.MaxInt64, want)
		}
	}
	for _, v := range views() {
		for _, x := range edges {
			refused(v, x, 0, api.ErrRange)
			refused(v, 0, x, api.ErrRange)
			refused(v, end, x, api.ErrRange)
			refused(v, x, -end, api.ErrRange)
			refused(v, x, x, api.ErrRange)
		}
	}
}

func TestP35_None(t *testing.T) {
	var k *hdda.Walk
	for range 2 {
		if u, v, e := k.Next(); u != 0 || v != 0 || e != api.ErrArg {
			t.Errorf("Next of none: %d %d %v", u, v, e)
		}
		for _, n := range append([]int64{0, 1, -1}, edges...) {
			if k.Skip(n) {
				t.Errorf("Skip(%d) of none", n)
			}
		}
		if k.X() != 0 {
			t.Errorf("X of none: %d", k.X())
		}
	}
}

func TestP35_2_Next(t *testing.T) {
	seen := map[api.Errno]int{}
	signs := map[int]int{}
	for _, v := range views() {
		m := plane(t, v)
		for _, s := range starts() {
			k := made(t, v, s[0], s[1])
			for x := s[0]; x < s[0]+60 && x <= end; x++ {
				e := next(t, k, m, x, s[1])
				sign := under(v.c, x, s[1]).Sign()
				if (sign == 0) != (e == api.ErrSign) {
					t.Fatalf("%v, column %d, row %d: %v", v, x, s[1], e)
				}
				seen[e]++
				signs[sign]++
			}
		}
	}
	if seen[api.ErrSign] < 5 || signs[1] < 1000 || signs[-1] < 1000 {
		t.Error("of some kind there are too few:", seen, signs)
	}
}

func TestP35_2_ByHand(t *testing.T) {
	type told struct {
		u, v int64
		e    api.Errno
	}
	// x, y comes to x / (x/16 + 1), y / (x/16 + 1): so it comes from x / (1 - x/16), y / (1 - x/16).
	tilted := view{[]int64{one, 0, 0, 0, one, 0, tilt, 0, one}, 9, 9}
	for _, h := range []struct {
		v    view
		x, y int64
		want []told
	}{
		{view{[]int64{one, 0, 0, 0, one, 0, 0, 0, one}, 9, 9}, 3, 4, []told{{196608, 262144, 0}, {262144, 262144, 0}}},
		{tilted, 0, 4, []told{{0, 4 * one, 0}, {one * 16 / 15, 4 * one * 16 / 15, 0}, {one * 32 / 14, 4 * one * 16 / 14, 0}}},
		{tilted, 14, 1, []told{{112 * one, 8 * one, 0}, {240 * one, 16 * one, 0}, {0, 0, api.ErrSign}, {-272 * one, -16 * one, 0}, {-144 * one, -8 * one, 0}}},
		{tilted, 18, -1, []told{{-144 * one, 8 * one, 0}, {-101*one - 21846, 5*one + 21845, 0}}},
		{view{[]int64{1, 0, 0, 0, 1, 0, 0, 0, coef}, 9, 9}, -1, 1, []told{{-1 << 40, 1 << 40, 0}, {0, 1 << 40, 0}, {1 << 40, 1 << 40, 0}}},
		{view{[]int64{1, 0, 0, 0, 1, 0, 0, 0, coef}, 9, 9}, 63, 65, []told{{63 << 40, far, 0}, {far, far, 0}, {far, far, 0}}},
		{view{[]int64{-1, 0, 0, 0, 1, 0, 0, 0, coef}, 9, 9}, 64, 0, []told{{-far, 0, 0}, {-far, 0, 0}}},
	} {
		k := made(t, h.v, h.x, h.y)
		for i, p := range h.want {
			if u, v, e := k.Next(); (told{u, v, e}) != p {
				t.Errorf("%v, from %d, %d on, %d: %d %d %v, not %v", h.v, h.x, h.y, i, u, v, e, p)
			}
		}
	}
}

func TestP35_2_End(t *testing.T) {
	for _, v := range views() {
		m := plane(t, v)
		for _, x := range []int64{end - 4, end - 1, end} {
			k := made(t, v, x, 9)
			for ; x <= end; x++ {
				next(t, k, m, x, 9)
			}
			ended(t, k)
		}
	}
	// What is divided by is 0 at the very last column.
	last := view{[]int64{2 * coef / 32, 0, 0, 0, coef / 16, 0, 1, 0, coef / 16}, 9, 9}
	if under(last.c, end, 0).Sign() != 0 {
		t.Fatal("the test is wrong:", under(last.c, end, 0))
	}
	k := made(t, last, end-1, 0)
	if e := next(t, k, plane(t, last), end-1, 0); e != api.OK {
		t.Error(e)
	}
	if e := next(t, k, plane(t, last), end, 0); e != api.ErrSign {
		t.Error(e)
	}
	ended(t, k)
}

func TestP35_3_Skip(t *testing.T) {
	for _, v := range views() {
		m := plane(t, v)
		for _, s := range starts() {
			for _, n := range []int64{0, 1, 2, 3, 7, 20, 100, 16384, end - s[0] - 1, end - s[0]} {
				if n < 0 || s[0]+n > end {
					continue
				}
				k := made(t, v, s[0], s[1])
				if !k.Skip(n) || k.X() != s[0]+n {
					t.Fatalf("%v, from %d on: Skip(%d) stands at %d", v, s[0], n, k.X())
				}
				for x := s[0] + n; x <= min(s[0]+n+2, end); x++ {
					next(t, k, m, x, s[1])
				}
			}
		}
	}
}

func TestP35_3_Wrong(t *testing.T) {
	for _, v := range views() {
		m := plane(t, v)
		for _, s := range starts() {
			k := made(t, v, s[0], s[1])
			k.Next()
			x := s[0] + 1
			room := end + 1 - x
			for _, n := range []int64{-1, -2, -x, -end, room + 1, room + 2, math.MaxInt64, math.MaxInt64 - x, math.MinInt64, math.MinInt64 + 1, 1 << 32, 1<<63 - end, -1 << 32} {
				if (n < 0 || n > room) && (k.Skip(n) || k.X() != x) {
					t.Fatalf("%v, from %d on: Skip(%d) stands at %d", v, x, n, k.X())
				}
			}
			if x <= end {
				next(t, k, m, x, s[1])
			}
		}
	}
}

func TestP35_3_End(t *testing.T) {
	for _, x := range []int64{-end, -1, 0, end - 1, end} {
		k := made(t, views()[0], x, 5)
		if k.Skip(end + 2 - x) {
			t.Errorf("from %d on: Skip goes too far", x)
		}
		if !k.Skip(end+1-x) || k.X() != end+1 {
			t.Errorf("from %d on: it stands at %d", x, k.X())
		}
		ended(t, k)
		if !k.Skip(0) || k.Skip(1) || k.Skip(-1) || k.X() != end+1 {
			t.Errorf("beyond all: it stands at %d", k.X())
		}
		ended(t, k)
	}
}

func TestP35_4_LikeHomog(t *testing.T) {
	n := uint64(3)
	for _, v := range views() {
		m := plane(t, v)
		for _, s := range starts() {
			k := made(t, v, s[0], s[1])
			for x := s[0]; x <= min(end, s[0]+120000); x = k.X() {
				next(t, k, m, x, s[1])
				n = n*6364136223846793005 + 1442695040888963407
				step := int64(n>>33) % 7 // mostly on to the next one; now and then a little further, or far away
				if step == 5 {
					step = int64(n>>37) % 40000
				}
				if step > 2 && k.Skip(step) != (x+1+step <= end+1) {
					t.Fatalf("%v, at %d: Skip(%d)", v, x, step)
				}
			}
		}
	}
}

// P1 and P2: what is written into the numbers later changes nothing, nor does another walk; and the same is told again.
func TestP1_P2_TheSameAgain(t *testing.T) {
	l := views()
	for _, v := range l {
		for _, s := range starts() {
			own := view{slices.Clone(v.c), v.w, v.h}
			k, other := made(t, own, s[0], s[1]), made(t, v, s[0], s[1])
			if !slices.Equal(own.c, v.c) {
				t.Fatalf("New(%v) left %v", v, own)
			}
			clear(own.c)
			for range 9 {
				u, w, e := k.Next()
				beside := made(t, l[4], s[0], s[1])
				beside.Next()
				beside.Skip(1)
				if i, j, code := other.Next(); fmt.Sprint(u, w, e) != fmt.Sprint(i, j, code) || k.X() != other.X() {
					t.Fatalf("%v: %d %d %v, then %d %d %v", v, u, w, e, i, j, code)
				}
			}
		}
	}
}
