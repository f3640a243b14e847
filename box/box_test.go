package box_test

import (
	"fmt"
	"math"
	"slices"
	"testing"

	"anamorph/affine"
	"anamorph/api"
	"anamorph/box"
	"anamorph/homog"
	"anamorph/lens"
	"anamorph/level"
	"anamorph/mesh"
	"anamorph/shear"
	"anamorph/xform"
)

const (
	one = 65536
	far = 1 << 46
)

// picture is a transform, for an image of a size.
type picture struct {
	t    api.Xform
	w, h int
}

// knots are the numbers of a mesh whose knots come from wherever.
func knots(gx, gy, nx, ny int) []int64 {
	c := []int64{int64(gx), int64(gy), int64(nx), int64(ny)}
	x := uint64(gx*1000 + gy)
	for range 2 * (nx + 1) * (ny + 1) {
		x = x*6364136223846793005 + 1442695040888963407
		c = append(c, int64(x>>31)%(1<<21)-1<<20)
	}
	return c
}

// transforms are of each kind; most of them make of the places of an image such as lie between those of its corners, some don't.
func transforms() []api.Xform {
	return []api.Xform{
		{Kind: api.Affine, C: affine.Unit()},
		{Kind: api.Affine, C: affine.Move(-5, 3*one+1)},
		{Kind: api.Affine, C: []int64{one / 3, one / 5, 0, -one / 7, one / 2, 99}},
		{Kind: api.Affine, C: []int64{-3 * one, one / 5, one, 7, one / 2, -8}},
		{Kind: api.Affine, C: []int64{0, one / 5, one, -one, 0, -8}},
		{Kind: api.Affine, C: []int64{one, one, 5, one, -one, -8}},
		{Kind: api.Affine, C: []int64{1, 0, 1 << 31, 0, -1, 1 << 31}}, // all is cut
		{Kind: api.Affine, C: []int64{1, 0, -1 << 30, 0, 1, 0}},       // some is cut
		{Kind: api.Homog, C: []int64{one, 0, 0, 0, one, 0, 4096, 0, one}},
		{Kind: api.Homog, C: []int64{one, 0, 0, 0, one, 0, 4095, 1, one}},
		{Kind: api.Homog, C: []int64{one / 3, 99, -one * 9, -7, one / 5, 5 * one, -1033, 544, one}},
		{Kind: api.Homog, C: []int64{-one, 3, 5 * one, 7, one, 9, 0, -100, one}},
		{Kind: api.Homog, C: []int64{one, 0, 0, 0, one, 0, 0, 0, -one}},
		{Kind: api.Lens, C: lens.Plain(one, one, 3)},
		{Kind: api.Lens, C: []int64{3 * one, 2 * one, 6, 60000, 44444, -3000, 7000}},
		{Kind: api.Lens, C: []int64{4 * one, 4 * one, 5, -one, 0, 0, 0}}, // the greatest column lies within
		{Kind: api.Lens, C: []int64{4*one + 9, 5 * one, 6, -60000, 20000, 30000, -20000}},
		{Kind: api.Lens, C: []int64{5 * one, 3*one + 7, 4, -20000, 65536, 65536, -65536}},
		{Kind: api.Mesh, C: mesh.Plain(4, 4, 3, 3)},
		{Kind: api.Mesh, C: knots(3, 2, 5, 6)},
		{Kind: api.Mesh, C: knots(1, 1, 12, 12)},
		{Kind: api.Mesh, C: []int64{12, 11, 1, 1, -1 << 31, 1 << 31, 7, -9, 1 << 31, 1 << 31, 100, -1 << 31}},
		{Kind: api.Shear, C: shear.Quarter(0)},
		{Kind: api.Shear, C: shear.Quarter(3)},
		{Kind: api.Shear, C: []int64{1 << 18, -1 << 18, 2, -3}},
		{Kind: api.Shear, C: []int64{-1 << 18, 30000, 4, 1}}, // back and forth
		{Kind: api.Shear, C: []int64{-27146, 46341, 5, 5}},
		{Kind: api.Shear, C: []int64{40000, -99999, 3, 0}},
		{Kind: api.Turn, C: []int64{0, 9, 4}}, {Kind: api.Turn, C: []int64{1, 9, 4}}, {Kind: api.Turn, C: []int64{2, 9, 4}},
		{Kind: api.Turn, C: []int64{3, 9, 4}}, {Kind: api.Turn, C: []int64{6, 9, 4}}, {Kind: api.Turn, C: []int64{7, 1, 5}},
	}
}

// pictures are transforms for images of one pixel, one row, one column, and others.
func pictures() []picture {
	var l []picture
	for _, s := range [][2]int{{1, 1}, {6, 1}, {1, 5}, {7, 5}, {9, 10}} {
		for _, t := range transforms() {
			l = append(l, picture{t, s[0], s[1]})
		}
	}
	return append(l, // right for no image as wide as this one is high
		picture{api.Xform{Kind: api.Mesh, C: knots(3, 2, 4, 2)}, 12, 4}, picture{api.Xform{Kind: api.Mesh, C: knots(2, 4, 1, 3)}, 2, 11},
		picture{api.Xform{Kind: api.Homog, C: []int64{one, 0, 0, 0, one, 0, 4096, 0, one}}, 16, 18}, picture{api.Xform{Kind: api.Homog, C: []int64{one, 0, 0, 0, one, 0, 0, 4096, one}}, 18, 16},
	)
}

// parts are such of an image: each pixel by itself, rows, columns, and others, to the image's borders.
func parts(w, h int) []api.Rect {
	var l []api.Rect
	for y0 := range h {
		for x0 := range w {
			for _, s := range [][2]int{{1, 1}, {2, 1}, {1, 3}, {3, 2}, {w - x0, 1}, {1, h - y0}, {w - x0, h - y0}} {
				r := api.Rect{X0: x0, Y0: y0, X1: x0 + s[0], Y1: y0 + s[1]}
				if r.X1 <= w && r.Y1 <= h {
					l = append(l, r)
				}
			}
		}
	}
	return l
}

// each calls do for each place from which one comes that is asked for of a part's pixels.
func each(t *testing.T, p picture, r api.Rect, n int, do func(u, v int64)) {
	t.Helper()
	m, e := xform.New(p.t, p.w, p.h)
	if e != api.OK {
		t.Fatal(p, e)
	}
	ask := func(px, py, d int) {
		u, v, e := m.At(int64(px), int64(py), int64(d))
		if e != api.OK {
			t.Fatal(p, px, py, d, e)
		}
		do(u, v)
	}
	for y := r.Y0; y < r.Y1; y++ {
		for x := r.X0; x < r.X1; x++ {
			if n == 0 {
				ask(x, y, 1)
			}
			for j := range n {
				for i := range n {
					ask(2*n*x+2*i+1-n, 2*n*y+2*j+1-n, 2*n)
				}
			}
		}
	}
}

// want is the Box of a part, by all places that are asked for; of a mesh by its hull.
func want(t *testing.T, p picture, r api.Rect, n int) box.Box {
	t.Helper()
	if p.t.Kind == api.Mesh {
		m, e := mesh.New(p.t.C, p.w, p.h)
		k, is := m.Hull(r.X0, r.Y0, r.X1, r.Y1)
		if e != api.OK || !is {
			t.Fatal(p, r, e, is)
		}
		return box.Box{U0: int64(k.X0), V0: int64(k.Y0), U1: int64(k.X1), V1: int64(k.Y1)}
	}
	b := box.Box{U0: math.MaxInt64, V0: math.MaxInt64, U1: math.MinInt64, V1: math.MinInt64}
	each(t, p, r, n, func(u, v int64) {
		b.U0, b.U1 = min(b.U0, u), max(b.U1, u)
		b.V0, b.V1 = min(b.V0, v), max(b.V1, v)
	})
	return b
}

func TestP37_1_Of(t *testing.T) {
	for _, p := range pictures() {
		for _, r := range parts(p.w, p.h) {
			for _, n := range []int{0, 1, 2, 3} {
				b, e := box.Of(p.t, p.w, p.h, r, n)
				if k := want(t, p, r, n); b != k || e != api.OK {
					t.Fatalf("%v, part %v, n %d: %v %v, not %v", p, r, n, b, e, k)
				}
			}
		}
	}
}

func TestP37_1_AllSamples(t *testing.T) {
	for _, p := range pictures() {
		for _, r := range []api.Rect{{X1: 1, Y1: 1}, {X0: p.w - 1, Y0: p.h - 1, X1: p.w, Y1: p.h}, {X1: p.w, Y1: 1}, {X0: p.w / 2, X1: p.w/2 + 1, Y1: p.h}, {X1: p.w, Y1: p.h}} {
			for n := range 9 {
				b, e := box.Of(p.t, p.w, p.h, r, n)
				if k := want(t, p, r, n); b != k || e != api.OK {
					t.Fatalf("%v, part %v, n %d: %v %v, not %v", p, r, n, b, e, k)
				}
			}
		}
	}
}

func TestP37_1_ByHand(t *testing.T) {
	for _, c := range []struct {
		p    picture
		r    api.Rect
		n    int
		want box.Box
	}{
		{picture{xform.Whole(9, 9), 9, 9}, api.Rect{X0: 1, Y0: 2, X1: 4, Y1: 5}, 0, box.Box{U0: 65536, V0: 131072, U1: 196608, V1: 262144}},
		{picture{xform.Whole(9, 9), 9, 9}, api.Rect{X0: 1, Y0: 2, X1: 4, Y1: 5}, 1, box.Box{U0: 65536, V0: 131072, U1: 196608, V1: 262144}},
		{picture{xform.Whole(9, 9), 9, 9}, api.Rect{X0: 1, Y0: 2, X1: 4, Y1: 5}, 2, box.Box{U0: 49152, V0: 114688, U1: 212992, V1: 278528}}, // a quarter more on each side
		{picture{xform.Whole(9, 9), 9, 9}, api.Rect{X1: 1, Y1: 1}, 8, box.Box{U0: -28672, V0: -28672, U1: 28672, V1: 28672}},
		{picture{api.Xform{Kind: api.Turn, C: []int64{1, 4, 3}}, 3, 4}, api.Rect{X1: 1, Y1: 4}, 0, box.Box{U0: 0, V0: 2 * one, U1: 3 * one, V1: 2 * one}},
		{picture{api.Xform{Kind: api.Shear, C: shear.Quarter(1)}, 4, 4}, api.Rect{X1: 4, Y1: 2}, 5, box.Box{U0: -one, V0: 0, U1: 0, V1: 3 * one}},
		{picture{api.Xform{Kind: api.Mesh, C: mesh.Plain(4, 4, 2, 2)}, 8, 8}, api.Rect{X0: 1, Y0: 5, X1: 2, Y1: 6}, 0, box.Box{U0: 0, V0: 4 * one, U1: 4 * one, V1: 8 * one}},
		{picture{api.Xform{Kind: api.Lens, C: []int64{0, 0, 1, -one / 4, 0, 0, 0}}, 4, 1}, api.Rect{X1: 4, Y1: 1}, 0, box.Box{U0: -15 * one / 4, V0: 0, U1: 3 * one / 4, V1: 0}}, // 0, 3/4, 0, -15/4
	} {
		if b, e := box.Of(c.p.t, c.p.w, c.p.h, c.r, c.n); b != c.want || e != api.OK {
			t.Errorf("%v, part %v, n %d: %v %v, not %v", c.p, c.r, c.n, b, e, c.want)
		}
	}
}

// The least and the greatest lie within a part, not at its corners: of lenses and of slants.
func TestP37_1_Within(t *testing.T) {
	within := map[int]int{}
	for _, p := range pictures() {
		whole := api.Rect{X1: p.w, Y1: p.h}
		corners := want(t, p, api.Rect{X1: 1, Y1: 1}, 0)
		for _, r := range []api.Rect{{X0: p.w - 1, X1: p.w, Y1: 1}, {Y0: p.h - 1, X1: 1, Y1: p.h}, {X0: p.w - 1, Y0: p.h - 1, X1: p.w, Y1: p.h}} {
			corners = box.Around(corners, want(t, p, r, 0))
		}
		b, e := box.Of(p.t, p.w, p.h, whole, 0)
		if e != api.OK {
			t.Fatal(p, e)
		}
		if b != corners {
			within[p.t.Kind]++
		}
	}
	if within[api.Lens] < 3 || within[api.Shear] < 3 || within[api.Affine]+within[api.Homog]+within[api.Turn] > 0 {
		t.Error("boxes that corners don't tell:", within)
	}
}

// Images as wide and high as may be.
func TestP37_1_Great(t *testing.T) {
	const side = 32768
	for _, p := range []picture{
		{xform.Whole(side, side), side, side},
		{api.Xform{Kind: api.Affine, C: []int64{1, 0, 1 << 31, 0, -1, 1 << 31}}, side, side},
		{api.Xform{Kind: api.Homog, C: []int64{one, 5, 0, -9, one, -9, 1, 0, one}}, side, side},
		{api.Xform{Kind: api.Turn, C: []int64{5, side, side}}, side, side},
		{api.Xform{Kind: api.Mesh, C: mesh.Plain(1024, 512, 32, 64)}, side, side},
		{api.Xform{Kind: api.Lens, C: []int64{1 << 30, 1 << 30, side, -one, one, one, one}}, side, side},
		{api.Xform{Kind: api.Shear, C: []int64{1 << 18, -1 << 18, side, -side}}, side, side},
	} {
		for _, r := range []api.Rect{{X0: side - 1, Y0: side - 1, X1: side, Y1: side}, {X1: side, Y1: 1}, {X0: side - 1, X1: side, Y1: side}, {X0: 20000, Y0: 777, X1: 20020, Y1: 800}} {
			for _, n := range []int{0, 1, 3} {
				b, e := box.Of(p.t, p.w, p.h, r, n)
				if k := want(t, p, r, n); b != k || e != api.OK {
					t.Fatalf("kind %d, part %v, n %d: %v %v, not %v", p.t.Kind, r, n, b, e, k)
				}
			}
		}
	}
	for n, want := range []int64{0, 0, one / 4, one / 3, one * 3 / 8, one * 2 / 5, one * 5 / 12, one * 3 / 7, one * 7 / 16} {
		b, e := box.Of(xform.Whole(side, side), side, side, api.Rect{X1: side, Y1: side}, n)
		last := int64(side-1)*one + want
		if least := -want; e != api.OK || b.U1 != last || b.V1 != last || b.U0 > least || b.U0 < least-1 || b.V0 != b.U0 { // the lesser ones are rounded down, too
			t.Errorf("n %d: %v %v", n, b, e)
		}
	}
}

func TestP37_1_Wrong(t *testing.T) {
	refused := func(p picture, r api.Rect, n int, want api.Errno) {
		t.Helper()
		if b, e := box.Of(p.t, p.w, p.h, r, n); b != (box.Box{}) || e != want {
			t.Errorf("%v, part %v, n %d: %v %v, not %v", p, r, n, b, e, want)
		}
	}
	rects := func(w, h int) []api.Rect {
		return []api.Rect{
			{}, {X0: 1, X1: 1, Y1: 1}, {Y0: 1, X1: 1, Y1: 1}, {X0: 1, Y0: 0, X1: 0, Y1: 1}, {X1: 1, Y1: -1},
			{X1: w + 1, Y1: h}, {X1: w, Y1: h + 1}, {X0: -1, X1: w, Y1: h}, {Y0: -1, X1: w, Y1: h}, {X0: w, X1: w + 1, Y1: 1}, {Y0: h, X1: 1, Y1: h + 1}, {X0: -1, X1: 0, Y1: 1},
			{X1: 1<<31 + 1, Y1: 1}, {X0: math.MinInt, X1: 1, Y1: 1}, {X1: 1, Y1: math.MaxInt}, {X0: math.MinInt, Y0: math.MinInt, X1: math.MaxInt, Y1: math.MaxInt}, {X1: 1<<32 + 1, Y1: 1},
		}
	}
	counts := []int{-1, 9, 10, 1 << 32, -1 << 32, math.MinInt, math.MaxInt}
	for _, p := range pictures() {
		for _, r := range rects(p.w, p.h) {
			for _, n := range append(counts, 0, 8) {
				refused(p, r, n, api.ErrRange)
			}
		}
		for _, n := range counts {
			refused(p, api.Rect{X1: p.w, Y1: p.h}, n, api.ErrArg)
			refused(p, api.Rect{X0: p.w - 1, Y0: p.h - 1, X1: p.w, Y1: p.h}, n, api.ErrArg)
		}
	}
	unit := affine.Unit()
	for want, l := range map[api.Errno][]picture{
		api.ErrArg:      {{api.Xform{C: unit}, 1, 1}, {api.Xform{Kind: 7, C: unit}, 1, 1}, {api.Xform{Kind: api.Turn, C: []int64{8, 1, 1}}, 1, 1}},
		api.ErrLimit:    {{api.Xform{Kind: api.Affine, C: unit}, 0, 1}, {api.Xform{Kind: api.Mesh}, 1, 32769}, {api.Xform{Kind: api.Lens}, math.MinInt, 1}},
		api.ErrSize:     {{api.Xform{Kind: api.Affine}, 1, 1}, {api.Xform{Kind: api.Homog, C: unit}, 1, 1}, {api.Xform{Kind: api.Mesh}, 1, 1}, {api.Xform{Kind: api.Shear, C: unit}, 1, 1}},
		api.ErrRange:    {{api.Xform{Kind: api.Lens, C: lens.Plain(0, 0, 0)}, 1, 1}},
		api.ErrSingular: {{api.Xform{Kind: api.Affine, C: make([]int64, 6)}, 1, 1}, {api.Xform{Kind: api.Homog, C: homog.Of(make([]int64, 6))}, 1, 1}},
		api.ErrSign:     {{api.Xform{Kind: api.Homog, C: []int64{one, 0, 0, 0, one, 0, 4096, 0, one}}, 17, 1}},
		api.ErrMesh:     {{api.Xform{Kind: api.Mesh, C: mesh.Plain(2, 2, 2, 2)}, 5, 4}},
	} {
		for _, p := range l {
			for _, n := range append(counts, 0, 1) {
				refused(p, api.Rect{X1: 1, Y1: 1}, n, want)
				refused(p, api.Rect{}, n, want)
				refused(p, api.Rect{X1: math.MaxInt}, n, want)
			}
		}
	}
}

// some are boxes: of one place, wide and high ones, at the ends of the ranges, and such as are none.
func some() []box.Box {
	return []box.Box{
		{}, {U0: -1, V0: -2, U1: 3, V1: 4}, {U0: 5, V0: 6, U1: 5, V1: 6}, {U0: 5, V0: 6, U1: 4, V1: 9}, {U0: 5, V0: 6, U1: 9, V1: 5}, {U0: 0, V0: 0, U1: 1, V1: 1},
		{U0: -far, V0: -far, U1: far, V1: far}, {U0: far, V0: -far, U1: far, V1: -far}, {U0: -far, V0: far - 1, U1: 1 - far, V1: far}, {U0: one, V0: one, U1: 3 * one, V1: 2*one + 1}, {U0: -one, V0: 32767, U1: -32768, V1: 32768},
	}
}

func TestP37_2_Has(t *testing.T) {
	for _, b := range append(some(), box.Box{U0: math.MinInt64, V0: math.MinInt64, U1: math.MaxInt64, V1: math.MaxInt64}) {
		ends := []int64{b.U0, b.U1, b.V0, b.V1, 0, math.MinInt64, math.MaxInt64}
		for _, i := range ends {
			for _, u := range []int64{i - 1, i, i + 1} {
				for _, k := range ends {
					for _, v := range []int64{k - 1, k, k + 1} {
						want := !(u < b.U0) && !(u > b.U1) && !(v < b.V0) && !(v > b.V1)
						if box.Has(b, u, v) != want {
							t.Errorf("Has(%v, %d, %d): %v", b, u, v, !want)
						}
					}
				}
			}
		}
	}
}

func TestP37_2_Around(t *testing.T) {
	for _, a := range some() {
		for _, b := range some() {
			us, vs := []int64{a.U0, b.U0, a.U1, b.U1}, []int64{a.V0, b.V0, a.V1, b.V1}
			want := box.Box{U0: slices.Min(us[:2]), V0: slices.Min(vs[:2]), U1: slices.Max(us[2:]), V1: slices.Max(vs[2:])}
			if c := box.Around(a, b); c != want {
				t.Errorf("Around(%v, %v): %v, not %v", a, b, c, want)
			}
		}
	}
	if c := box.Around(box.Box{U0: 1, V0: 20, U1: 3, V1: 40}, box.Box{U0: -1, V0: 30, U1: 2, V1: 50}); c != (box.Box{U0: -1, V0: 20, U1: 3, V1: 50}) {
		t.Error(c)
	}
}

func TestP37_2_To(t *testing.T) {
	for _, b := range some() {
		for _, k := range []int{0, 1, 2, 5, 14, 15, 16, 64, -1, math.MinInt, math.MaxInt} {
			want := box.Box{U0: level.To(b.U0, k), V0: level.To(b.V0, k), U1: level.To(b.U1, k), V1: level.To(b.V1, k)}
			if c := box.To(b, k); c != want {
				t.Errorf("To(%v, %d): %v, not %v", b, k, c, want)
			}
		}
	}
	if c := box.To(box.Box{U0: 32768, V0: 0, U1: 98304, V1: 229376}, 1); c != (box.Box{U0: 0, V0: -16384, U1: 32768, V1: 98304}) {
		t.Error(c)
	}
}

func TestP37_3_Within(t *testing.T) {
	for _, p := range pictures() {
		for _, r := range parts(p.w, p.h) {
			for _, n := range []int{0, 2, 5} {
				if n == 5 && r.X1-r.X0+r.Y1-r.Y0 > 4 {
					continue
				}
				b, e := box.Of(p.t, p.w, p.h, r, n)
				if e != api.OK {
					t.Fatal(p, r, n, e)
				}
				each(t, p, r, n, func(u, v int64) {
					if !box.Has(b, u, v) {
						t.Fatalf("%v, part %v, n %d: %d %d isn't in %v", p, r, n, u, v, b)
					}
				})
			}
		}
	}
}

func TestP37_3_PartOfAPart(t *testing.T) {
	for _, p := range pictures() {
		for _, n := range []int{0, 1, 4} {
			whole, e := box.Of(p.t, p.w, p.h, api.Rect{X1: p.w, Y1: p.h}, n)
			if e != api.OK {
				t.Fatal(p, e)
			}
			for _, r := range parts(p.w, p.h) {
				b, _ := box.Of(p.t, p.w, p.h, r, n)
				less, _ := box.Of(p.t, p.w, p.h, api.Rect{X0: r.X0, Y0: r.Y0, X1: (r.X0+r.X1)/2 + 1, Y1: (r.Y0+r.Y1)/2 + 1}, n)
				if box.Around(b, less) != b || box.Around(whole, b) != whole {
					t.Fatalf("%v, part %v, n %d: %v, a part of it %v, all %v", p, r, n, b, less, whole)
				}
			}
		}
	}
}

// P1 and P2: all end at all edges, wrong ones too, and tell the same again, whatever was called between; the numbers stay.
func TestP1_P2_TheSameAgain(t *testing.T) {
	l, boxes := pictures(), some()
	numbers := fmt.Sprint(l)
	told := func(i int) string {
		p, a, b := l[i%len(l)], boxes[i%len(boxes)], boxes[i*7%len(boxes)]
		r := api.Rect{X0: i%5 - 1, Y0: i%3 - 1, X1: i % 7, Y1: i % 11}
		c, e := box.Of(p.t, p.w, p.h, r, i%11-1)
		return fmt.Sprint(c, e, box.Around(a, b), box.To(a, i%20-2), box.Has(a, b.U0, b.V1))
	}
	var first []string
	for i := range 20000 {
		first = append(first, told(i))
	}
	for i := len(first) - 1; i >= 0; i-- {
		if again := told(i); again != first[i] {
			t.Fatalf("%d: %s, then %s", i, first[i], again)
		}
	}
	if fmt.Sprint(l) != numbers {
		t.Error("what is handed in has changed")
	}
}
