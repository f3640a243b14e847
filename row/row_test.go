package row_test

import (
	"fmt"
	"math"
	"slices"
	"testing"

	"anamorph/affine"
	"anamorph/api"
	"anamorph/homog"
	"anamorph/lens"
	"anamorph/mesh"
	"anamorph/row"
	"anamorph/shear"
	"anamorph/xform"
)

const one = 65536

// edges are numbers at the ends of an int, and others of no row.
var edges = []int{math.MinInt, math.MinInt + 1, -1 << 32, -32768, -2, -1, 32769, 1 << 32, math.MaxInt - 1, math.MaxInt}

// picture is a transform, for an image of a size.
type picture struct {
	t    api.Xform
	w, h int
}

// pictures are transforms of each kind, for images of one pixel, one row, one column, and others; some are divided by numbers below 0.
func pictures() []picture {
	var l []picture
	for _, s := range [][2]int{{1, 1}, {2, 1}, {1, 2}, {5, 1}, {1, 4}, {7, 5}, {9, 11}} {
		for _, t := range []api.Xform{
			xform.Whole(s[0], s[1]),
			{Kind: api.Affine, C: affine.Move(-5, 3*one+1)},
			{Kind: api.Affine, C: []int64{one / 3, one / 5, 0, -one / 7, one / 2, 99}},
			{Kind: api.Affine, C: []int64{-3 * one, one / 5, one, 7, one / 2, -8}},
			{Kind: api.Affine, C: []int64{1, 0, 1 << 31, 0, -1, 1 << 31}},
			{Kind: api.Affine, C: []int64{1 << 24, -1 << 24, -1 << 31, 1 << 24, 1 << 24, 1 << 31}},
			{Kind: api.Homog, C: []int64{one, 0, 0, 0, one, 0, 4096, 0, one}},
			{Kind: api.Homog, C: []int64{one / 3, 99, -one * 9, -7, one / 5, 5 * one, -1033, 544, one}},
			{Kind: api.Homog, C: []int64{-one, 3, 5 * one, 7, one, 9, 0, -100, one}},
			{Kind: api.Homog, C: homog.Of([]int64{one, one / 2, 0, 0, one, 0})},
			{Kind: api.Lens, C: lens.Plain(one, one, 3)},
			{Kind: api.Lens, C: []int64{3 * one, 2 * one, 6, 60000, 44444, -3000, 7000}},
			{Kind: api.Lens, C: []int64{0, 9 * one, 4, -20000, 65536, 65536, -65536}},
			{Kind: api.Mesh, C: mesh.Plain(4, 4, 3, 3)},
			{Kind: api.Mesh, C: []int64{9, 11, 1, 1, -1 << 31, 1 << 31, 7, -9, 1 << 31, 1 << 31, 100, -1 << 31}},
			{Kind: api.Shear, C: shear.Quarter(3)},
			{Kind: api.Shear, C: []int64{1 << 18, -1 << 18, 2, -3}},
			{Kind: api.Turn, C: []int64{1, 9, 4}}, {Kind: api.Turn, C: []int64{6, 9, 4}},
		} {
			l = append(l, picture{t, s[0], s[1]})
		}
	}
	return append(l, // some are right for no image as wide as this one is high
		picture{api.Xform{Kind: api.Homog, C: []int64{one, 0, 0, 0, one, 0, 4096, 0, one}}, 16, 40},
		picture{api.Xform{Kind: api.Homog, C: []int64{one, 0, 0, 0, one, 0, 0, 4096, one}}, 40, 16},
		picture{api.Xform{Kind: api.Mesh, C: mesh.Plain(3, 2, 4, 7)}, 12, 14},
		picture{api.Xform{Kind: api.Affine, C: []int64{one / 3, 77, 0, -88, one / 2, 99}}, 32768, 2},
		picture{api.Xform{Kind: api.Homog, C: []int64{one, 5, 0, 0, one, -9, 1, 0, one}}, 32768, 2},
		picture{api.Xform{Kind: api.Lens, C: []int64{1 << 31, -1 << 31, 32768, one, one, -one, one}}, 32768, 32768},
		picture{api.Xform{Kind: api.Mesh, C: mesh.Plain(1024, 512, 32, 64)}, 32768, 32768},
		picture{api.Xform{Kind: api.Shear, C: []int64{1 << 18, -1 << 18, 32768, -32768}}, 2, 32768},
		picture{api.Xform{Kind: api.Turn, C: []int64{2, 32768, 32768}}, 32768, 32768},
	)
}

// rows are those of an image, or some of them, if they are many.
func rows(h int) []int {
	var l []int
	for y := range min(h, 11) {
		l = append(l, y)
	}
	if h > 11 {
		l = append(l, h/2, h-1)
	}
	return l
}

// made is a row.
func made(t *testing.T, p picture, y int) *row.Row {
	t.Helper()
	r, e := row.New(p.t, p.w, p.h, y)
	if r == nil || e != api.OK {
		t.Fatalf("New(%v, %d): %v", p, y, e)
	}
	return r
}

// want is where each pixel of a row comes from.
func want(t *testing.T, p picture, y int) (columns, rows []int64) {
	t.Helper()
	m, e := xform.New(p.t, p.w, p.h)
	if e != api.OK {
		t.Fatal(p, e)
	}
	for x := range p.w {
		u, v, e := m.At(int64(x), int64(y), 1)
		if e != api.OK {
			t.Fatal(p, x, y, e)
		}
		columns, rows = append(columns, u), append(rows, v)
	}
	return columns, rows
}

// ended checks that a row stands behind its last column, and stays there.
func ended(t *testing.T, r *row.Row, w int) {
	t.Helper()
	for range 3 {
		if u, v, is := r.Next(); u != 0 || v != 0 || is || r.X() != w {
			t.Fatalf("behind the last column: %d %d %v, at %d of %d", u, v, is, r.X(), w)
		}
		if u, v := r.Rest(); len(u) != 0 || len(v) != 0 || r.X() != w {
			t.Fatalf("behind the last column: %v %v, at %d of %d", u, v, r.X(), w)
		}
		if !r.Skip(0) || r.Skip(1) || r.Skip(-1) || r.X() != w {
			t.Fatalf("behind the last column it stands at %d of %d", r.X(), w)
		}
	}
}

func TestP36_1_New(t *testing.T) {
	for _, p := range pictures() {
		for _, y := range rows(p.h) {
			if r := made(t, p, y); r.X() != 0 {
				t.Errorf("New(%v, %d) stands at %d", p, y, r.X())
			}
		}
		for _, y := range append(edges, p.h, p.h+1, -p.h) {
			if r, e := row.New(p.t, p.w, p.h, y); r != nil || e != api.ErrRange {
				t.Errorf("New(%v, %d): %v %v", p, y, r, e)
			}
		}
	}
}

func TestP36_1_Wrong(t *testing.T) {
	unit := affine.Unit()
	for want, l := range map[api.Errno][]picture{
		api.ErrArg:      {{api.Xform{C: unit}, 1, 1}, {api.Xform{Kind: 7, C: unit}, 1, 1}, {api.Xform{Kind: -1}, 0, 0}, {api.Xform{Kind: api.Turn, C: []int64{8, 1, 1}}, 1, 1}},
		api.ErrLimit:    {{api.Xform{Kind: api.Affine, C: unit}, 0, 1}, {api.Xform{Kind: api.Affine}, 1, 32769}, {api.Xform{Kind: api.Mesh}, math.MinInt, 1}, {api.Xform{Kind: api.Turn, C: []int64{1, 0, 1}}, 1, 1}},
		api.ErrSize:     {{api.Xform{Kind: api.Affine}, 1, 1}, {api.Xform{Kind: api.Homog, C: unit}, 1, 1}, {api.Xform{Kind: api.Lens, C: unit}, 1, 1}, {api.Xform{Kind: api.Mesh}, 1, 1}, {api.Xform{Kind: api.Shear, C: unit}, 1, 1}},
		api.ErrRange:    {{api.Xform{Kind: api.Affine, C: []int64{1<<24 + 1, 0, 0, 0, 1, 0}}, 1, 1}, {api.Xform{Kind: api.Lens, C: lens.Plain(0, 0, 0)}, 1, 1}},
		api.ErrSingular: {{api.Xform{Kind: api.Affine, C: make([]int64, 6)}, 1, 1}, {api.Xform{Kind: api.Homog, C: make([]int64, 9)}, 1, 1}},
		api.ErrSign:     {{api.Xform{Kind: api.Homog, C: []int64{one, 0, 0, 0, one, 0, 4096, 0, one}}, 17, 1}},
		api.ErrMesh:     {{api.Xform{Kind: api.Mesh, C: mesh.Plain(2, 2, 2, 2)}, 5, 4}},
	} {
		for _, p := range l {
			for _, y := range append(edges, 0, 1) {
				if r, e := row.New(p.t, p.w, p.h, y); r != nil || e != want {
					t.Errorf("New(%v, %d): %v %v, not %v", p, y, r, e, want)
				}
			}
		}
	}
}

func TestP36_None(t *testing.T) {
	var none *row.Row
	for _, r := range []*row.Row{none, {}} { // what nobody made has no columns, either
		if u, v, is := r.Next(); u != 0 || v != 0 || is {
			t.Errorf("Next of none: %d %d %v", u, v, is)
		}
		if u, v := r.Rest(); len(u) != 0 || len(v) != 0 {
			t.Errorf("Rest of none: %v %v", u, v)
		}
		for _, n := range append(edges, 0, 1) {
			if r.Skip(n) {
				t.Errorf("Skip(%d) of none", n)
			}
		}
		if r.X() != 0 {
			t.Errorf("X of none: %d", r.X())
		}
	}
}

func TestP36_2_ByHand(t *testing.T) {
	r := made(t, picture{xform.Whole(3, 2), 3, 2}, 1)
	if u, v := r.Rest(); !slices.Equal(u, []int64{0, 65536, 131072}) || !slices.Equal(v, []int64{65536, 65536, 65536}) || r.X() != 3 {
		t.Error(u, v, r.X())
	}
	r = made(t, picture{api.Xform{Kind: api.Turn, C: []int64{1, 4, 3}}, 3, 4}, 2)
	if u, v := r.Rest(); !slices.Equal(u, []int64{2 * one, 2 * one, 2 * one}) || !slices.Equal(v, []int64{2 * one, one, 0}) {
		t.Error(u, v)
	}
}

func TestP36_2_Next(t *testing.T) {
	for _, p := range pictures() {
		for _, y := range rows(p.h)[:min(p.h, 5)] {
			columns, lines := want(t, p, y)
			r := made(t, p, y)
			for x := range p.w {
				if r.X() != x {
					t.Fatalf("%v, row %d: it stands at %d, not %d", p, y, r.X(), x)
				}
				if u, v, is := r.Next(); u != columns[x] || v != lines[x] || !is {
					t.Fatalf("%v, column %d, row %d: %d %d %v, not %d %d", p, x, y, u, v, is, columns[x], lines[x])
				}
			}
			ended(t, r, p.w)
		}
	}
}

func TestP36_2_Rest(t *testing.T) {
	for _, p := range pictures() {
		for _, y := range rows(p.h) {
			columns, lines := want(t, p, y)
			for _, from := range []int{0, 1, 2, p.w - 1, p.w} {
				if from > p.w || from > 2 && y > 0 {
					continue
				}
				r := made(t, p, y)
				if !r.Skip(from) || r.X() != from {
					t.Fatalf("%v, row %d: Skip(%d) stands at %d", p, y, from, r.X())
				}
				if u, v := r.Rest(); !slices.Equal(u, columns[from:]) || !slices.Equal(v, lines[from:]) {
					t.Fatalf("%v, row %d, from %d on: %v %v", p, y, from, u, v)
				}
				ended(t, r, p.w)
			}
		}
	}
}

func TestP36_2_WrongSkip(t *testing.T) {
	for _, p := range pictures() {
		columns, lines := want(t, p, 0)
		for from := range min(p.w, 3) {
			r := made(t, p, 0)
			if !r.Skip(from) {
				t.Fatal(p, from)
			}
			for _, n := range append(edges, p.w-from+1, p.w-from+2, p.w+1, math.MaxInt-from, math.MaxInt-p.w) {
				if r.Skip(n) || r.X() != from {
					t.Fatalf("%v, from %d on: Skip(%d) stands at %d", p, from, n, r.X())
				}
			}
			if u, v, is := r.Next(); u != columns[from] || v != lines[from] || !is {
				t.Fatalf("%v, column %d: %d %d %v", p, from, u, v, is)
			}
		}
	}
}

func TestP36_3_Skipped(t *testing.T) {
	n := uint64(9)
	for _, p := range pictures() {
		for _, y := range rows(p.h)[:min(p.h, 3)] {
			columns, lines := want(t, p, y)
			for range 6 {
				r := made(t, p, y)
				for r.X() < p.w {
					n = n*6364136223846793005 + 1442695040888963407
					x, step := r.X(), int(n>>33)%4
					if p.w > 1000 {
						step = int(n>>33) % 900
					}
					if r.Skip(step) != (x+step <= p.w) {
						t.Fatalf("%v, at %d: Skip(%d)", p, x, step)
					}
					if x = r.X(); x == p.w {
						break
					}
					if u, v, is := r.Next(); u != columns[x] || v != lines[x] || !is {
						t.Fatalf("%v, column %d, row %d: %d %d %v, not %d %d", p, x, y, u, v, is, columns[x], lines[x])
					}
				}
				ended(t, r, p.w)
			}
		}
	}
}

// P1 and P2: what is written into the numbers later changes nothing, nor do other rows; and the same is told again.
func TestP1_P2_TheSameAgain(t *testing.T) {
	l := pictures()
	for i, p := range l {
		own := picture{api.Xform{Kind: p.t.Kind, C: slices.Clone(p.t.C)}, p.w, p.h}
		r, other := made(t, own, p.h-1), made(t, p, p.h-1)
		if !slices.Equal(own.t.C, p.t.C) {
			t.Fatalf("New(%v) left %v", p, own)
		}
		clear(own.t.C)
		for range min(p.w, 20) {
			u, v, is := r.Next()
			beside := made(t, l[(i+1)%len(l)], 0)
			beside.Next()
			if a, b, has := other.Next(); fmt.Sprint(u, v, is) != fmt.Sprint(a, b, has) || r.X() != other.X() {
				t.Fatalf("%v: %d %d %v, then %d %d %v", p, u, v, is, a, b, has)
			}
		}
		u, v := r.Rest()
		a, b := other.Rest()
		if !slices.Equal(u, a) || !slices.Equal(v, b) {
			t.Fatalf("%v: the rests differ", p)
		}
		clear(u)
		columns, _ := want(t, p, p.h-1)
		if again := made(t, p, p.h-1); !slices.Equal(first(again.Rest()), columns) {
			t.Fatalf("%v: it changes", p)
		}
	}
}

// first is the columns.
func first(u, _ []int64) []int64 { return u }
