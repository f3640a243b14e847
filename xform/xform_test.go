package xform_test

import (
	"fmt"
	"math"
	"slices"
	"testing"

	"anamorph/affine"
	"anamorph/api"
	"anamorph/homog"
	"anamorph/lens"
	"anamorph/mesh"
	"anamorph/shear"
	"anamorph/turn"
	"anamorph/xform"
)

const (
	one = 65536
	end = 1 << 20
)

// sight is a transform, for an image of a size.
type sight struct {
	t    api.Xform
	w, h int
}

// sights are right ones of each kind.
func sights() []sight {
	of := func(kind, w, h int, c ...int64) sight { return sight{api.Xform{Kind: kind, C: c}, w, h} }
	return []sight{
		of(api.Affine, 9, 9, one, 0, 0, 0, one, 0), of(api.Affine, 32768, 32768, 1<<24, -1<<24, -1<<31, 1<<24, 1<<24, 1<<31), of(api.Affine, 5, 4, 1, 0, 1<<31, 0, -1, 7), of(api.Affine, 1, 1, 3*one, one, -7, one/3, -one, 99),
		of(api.Homog, 9, 9, one, 0, 0, 0, one, 0, 0, 0, one), of(api.Homog, 16, 1, one, 0, 0, 0, one, 0, 4096, 0, one), of(api.Homog, 60, 70, one, 999, -one*9, -777, one, 5*one, 33, 44, -one), of(api.Homog, 8, 8, -one, 0, 0, 0, one, 0, 4096, 4096, one),
		of(api.Lens, 9, 9, lens.Plain(0, 0, 3)...), of(api.Lens, 101, 81, 50*one, 40*one, 100, 9999, -5555, 777, -3333), of(api.Lens, 32768, 32768, 1<<31, -1<<31, 32768, one, one, -one, one),
		of(api.Mesh, 8, 8, mesh.Plain(4, 4, 2, 2)...), of(api.Mesh, 3, 2, 3, 2, 1, 1, -1<<31, 1<<31, 7, -9, 1<<31, 1<<31, 100, -1<<31), of(api.Mesh, 32768, 32768, mesh.Plain(1024, 512, 32, 64)...),
		of(api.Shear, 9, 9, shear.Quarter(1)...), of(api.Shear, 32768, 3, 1<<18, -1<<18, 32768, -32768), of(api.Shear, 40, 50, -17560, 32768, 20, 25),
		of(api.Turn, 3, 4, 1, 4, 3), of(api.Turn, 32768, 1, 6, 32768, 32768), of(api.Turn, 5, 5, 7, 1, 9), of(api.Turn, 5, 5, 0, 2, 2),
	}
}

// bad are numbers that aren't right of some kinds, or of all, each with a size that is.
func bad() []sight {
	var l []sight
	lists := [][]int64{
		nil, {0}, {1, 1, 1}, {8, 1, 1}, {-1, 9, 9}, {0, 0, 9}, {0, 0, 0, 0}, {1 << 18, 1 << 18, 1 << 15, 1<<15 + 1}, {5, 5, 5, 5}, {0, 0, 0, 0, 0, 0}, {1<<24 + 1, 0, 0, 0, 1, 0}, {one, one, 0, one, one, 0}, {one, 0, 0, 0, one, 0},
		{0, 0, 1, 0, 0, 0, 0}, {0, 0, 0, 0, 0, 0, 0}, {0, 0, 1, one + 1, 0, 0, 0}, {0, 0, 32768, 1, 1, 1, 1}, {one, 0, 0, 0, one, 0, 0, 0, one}, {one, 0, 0, 0, one, 0, 4096, 0, one}, {one, 0, 0, 0, one, 0, one, 0, one}, {0, 0, 0, 0, 0, 0, 0, 0, 0},
		{3, 2, 1, 1, 0, 0, 0, 0, 0, 0, 0, 0}, {3, 2, 1, 1, 0, 0, 0, 0, 0, 0, 0, 1<<31 + 1}, {0, 2, 1, 1, 0, 0, 0, 0, 0, 0, 0, 0}, {64, 64, 1, 1, 0, 0, 0, 0, 0, 0, 0, 0}, {64, 64, 1, 2, 0, 0, 0, 0, 0, 0, 0, 0}, {math.MinInt64, 0, 0}, {math.MaxInt64, math.MaxInt64, math.MaxInt64, math.MaxInt64},
	}
	for kind := api.Affine; kind <= api.Turn; kind++ {
		for _, c := range lists {
			for _, s := range [][2]int{{1, 1}, {3, 2}, {4, 3}, {32, 32}, {1, 65}, {32768, 32768}} {
				l = append(l, sight{api.Xform{Kind: kind, C: c}, s[0], s[1]})
			}
		}
	}
	return l
}

// nothing are numbers of no kind.
var nothing = []int{0, -1, 7, 8, 1 << 32, 1<<32 + 1, math.MinInt, math.MaxInt}

// place is px divided by d, py divided by d.
type place struct{ px, py, d int64 }

// places are some; not all of them are right.
func places() []place {
	l := []place{{end, end, 1}, {-end, -end, 1}, {end, -end, 16}, {0, -end, 7}, {0, 0, 0}, {0, 0, -1}, {0, 0, 17}, {end + 1, 0, 1}, {0, -end - 1, 16}, {math.MinInt64, 0, 1}, {0, math.MaxInt64, math.MinInt64}}
	for _, d := range []int64{1, 2, 3, 16} {
		for _, px := range []int64{0, 1, -1, 5, 16, 99, -7000} {
			for _, py := range []int64{0, 2, -3, 17, 5000} {
				l = append(l, place{px, py, d})
			}
		}
	}
	return l
}

// by is what a kind's own layer tells.
func by(s sight) (func(px, py, d int64) (int64, int64, api.Errno), api.Errno) {
	switch s.t.Kind {
	case api.Affine:
		m, e := affine.New(s.t.C)
		return m.At, e
	case api.Homog:
		m, e := homog.New(s.t.C, s.w, s.h)
		return m.At, e
	case api.Lens:
		m, e := lens.New(s.t.C, s.w, s.h)
		return m.At, e
	case api.Mesh:
		m, e := mesh.New(s.t.C, s.w, s.h)
		return m.At, e
	case api.Shear:
		m, e := shear.New(s.t.C)
		return m.At, e
	}
	m, e := turn.New(s.t.C)
	return m.At, e
}

// made is a right transform.
func made(t *testing.T, s sight) *xform.Map {
	t.Helper()
	m, e := xform.New(s.t, s.w, s.h)
	if m == nil || e != api.OK {
		t.Fatalf("New(%v, %d, %d): %v", s.t, s.w, s.h, e)
	}
	return m
}

// checked checks the code of a transform.
func checked(t *testing.T, s sight, want api.Errno) {
	t.Helper()
	if e := xform.Check(s.t, s.w, s.h); e != want {
		t.Errorf("Check(%v, %d, %d): %v, not %v", s.t, s.w, s.h, e, want)
	}
	if m, e := xform.New(s.t, s.w, s.h); e != want || (m == nil) != (want != api.OK) {
		t.Errorf("New(%v, %d, %d): %v %v, not %v", s.t, s.w, s.h, m, e, want)
	}
}

func TestP24_1_Check(t *testing.T) {
	codes := map[api.Errno]int{}
	for _, s := range append(sights(), bad()...) {
		_, e := by(s)
		codes[e]++
		checked(t, s, e)
	}
	for _, e := range []api.Errno{api.OK, api.ErrSize, api.ErrArg, api.ErrRange, api.ErrLimit, api.ErrSingular, api.ErrSign, api.ErrMesh} {
		if codes[e] == 0 {
			t.Errorf("none is %v", e)
		}
	}
}

// Which of both sides is the width matters.
func TestP24_1_WidthAndHeight(t *testing.T) {
	for _, c := range []struct {
		kind int
		c    []int64
		w, h int
		turn api.Errno
	}{
		{api.Homog, []int64{one, 0, 0, 0, one, 0, 4096, 0, one}, 16, 32, api.ErrSign}, {api.Homog, []int64{one, 0, 0, 0, one, 0, 0, 4096, one}, 32, 16, api.ErrSign},
		{api.Lens, lens.Plain(0, 10*one, 3), 9, 20, api.ErrRange}, {api.Lens, lens.Plain(10*one, 0, 3), 20, 9, api.ErrRange},
		{api.Mesh, mesh.Plain(3, 2, 2, 2), 6, 4, api.ErrMesh}, {api.Mesh, mesh.Plain(2, 3, 2, 2), 4, 6, api.ErrMesh},
	} {
		checked(t, sight{api.Xform{Kind: c.kind, C: c.c}, c.w, c.h}, api.OK)
		checked(t, sight{api.Xform{Kind: c.kind, C: c.c}, c.h, c.w}, c.turn)
	}
}

func TestP24_1_KindAndSize(t *testing.T) {
	for _, kind := range nothing {
		for _, c := range [][]int64{nil, {one, 0, 0, 0, one, 0}, {0, 1, 1}} {
			for _, s := range [][2]int{{1, 1}, {0, 1}, {1, 32769}, {math.MinInt, math.MaxInt}} {
				checked(t, sight{api.Xform{Kind: kind, C: c}, s[0], s[1]}, api.ErrArg)
			}
		}
	}
	for _, s := range append(sights(), bad()...) { // whatever the numbers are
		for _, n := range []int{0, -1, 32769, 1 << 32, 1<<32 + 1, math.MinInt, math.MaxInt} {
			checked(t, sight{s.t, n, s.h}, api.ErrLimit)
			checked(t, sight{s.t, s.w, n}, api.ErrLimit)
			checked(t, sight{s.t, n, n}, api.ErrLimit)
		}
	}
	for _, s := range [][2]int{{1, 1}, {32768, 1}, {1, 32768}, {32768, 32768}} {
		checked(t, sight{xform.Whole(1, 1), s[0], s[1]}, api.OK)
	}
}

func TestP24_2_At(t *testing.T) {
	for _, s := range sights() {
		m := made(t, s)
		at, _ := by(s)
		for _, p := range places() {
			u, v, e := m.At(p.px, p.py, p.d)
			if x, y, code := at(p.px, p.py, p.d); u != x || v != y || e != code {
				t.Fatalf("%v at %v: %d %d %v, not %d %d %v", s.t, p, u, v, e, x, y, code)
			}
		}
		w, h := m.Size()
		if m.Kind() != s.t.Kind || w != s.w || h != s.h {
			t.Errorf("%v: kind %d, %d x %d", s.t, m.Kind(), w, h)
		}
	}
	var none *xform.Map
	for _, p := range places() {
		if u, v, e := none.At(p.px, p.py, p.d); u != 0 || v != 0 || e != api.ErrArg {
			t.Errorf("none at %v: %d %d %v", p, u, v, e)
		}
	}
	if w, h := none.Size(); none.Kind() != 0 || w != 0 || h != 0 {
		t.Error("none:", none.Kind(), w, h)
	}
}

// Each pixel, and each place no further than half a pixel from one, may be asked for.
func TestP24_2_Within(t *testing.T) {
	for _, s := range append(sights(), bad()...) {
		m, e := xform.New(s.t, s.w, s.h)
		if e != api.OK {
			continue
		}
		for _, x := range []int{0, 1, s.w / 3, s.w / 2, s.w - 2, s.w - 1} {
			for _, y := range []int{0, 1, s.h / 3, s.h / 2, s.h - 2, s.h - 1} {
				if x < 0 || y < 0 || x >= s.w || y >= s.h {
					continue
				}
				for _, p := range []place{{0, 0, 1}, {1, 1, 2}, {-1, -1, 2}, {1, -1, 2}, {-1, 1, 2}, {7, -7, 15}, {-8, 8, 16}, {8, -8, 16}, {-3, 2, 7}} {
					if _, _, e := m.At(int64(x)*p.d+p.px, int64(y)*p.d+p.py, p.d); e != api.OK {
						t.Fatalf("%v, %d x %d, at %d, %d and %v: %v", s.t, s.w, s.h, x, y, p, e)
					}
				}
			}
		}
	}
}

// A transform is what it was made of, whatever is written there later, and changes nothing of it.
func TestP24_1_Memory(t *testing.T) {
	for _, s := range sights() {
		kept := slices.Clone(s.t.C)
		m := made(t, s)
		told := func() string {
			u, v, e := m.At(1, 3, 2)
			w, h := m.Size()
			return fmt.Sprint(u, v, e, w, h, m.Kind())
		}
		before := told()
		if xform.Check(s.t, s.w, s.h); !slices.Equal(s.t.C, kept) {
			t.Fatalf("%v is now %v", kept, s.t.C)
		}
		for i := range s.t.C {
			s.t.C[i] = 1
		}
		if after := told(); after != before {
			t.Fatalf("%v: %s, then %s", kept, before, after)
		}
	}
}

func TestP24_3_Whole(t *testing.T) {
	for _, s := range [][2]int{{1, 1}, {9, 5}, {32768, 1}, {1, 32768}, {32768, 32768}} {
		whole := xform.Whole(s[0], s[1])
		if whole.Kind != api.Affine {
			t.Errorf("Whole(%v): %v", s, whole)
		}
		m := made(t, sight{whole, s[0], s[1]})
		for _, p := range []place{{0, 0, 1}, {int64(s[0] - 1), int64(s[1] - 1), 1}, {-5, 7, 2}, {-7, 5, 16}} {
			if u, v, e := m.At(p.px, p.py, p.d); u != one*p.px/p.d || v != one*p.py/p.d || e != api.OK {
				t.Errorf("Whole(%v) at %v: %d %d %v", s, p, u, v, e)
			}
		}
		clear(whole.C)
		if again := xform.Whole(s[0], s[1]); xform.Check(again, 1, 1) != api.OK {
			t.Errorf("Whole(%v), again: %v", s, again)
		}
	}
	for _, n := range []int{0, -1, 32769, 1 << 32, math.MinInt, math.MaxInt} {
		for _, s := range [][2]int{{n, 1}, {1, n}, {n, n}} {
			if whole := xform.Whole(s[0], s[1]); whole.Kind != 0 || len(whole.C) != 0 {
				t.Errorf("Whole(%v): %v", s, whole)
			}
		}
	}
}

func TestP24_3_NamesAndCounts(t *testing.T) {
	for i, want := range []struct {
		kind  int
		name  string
		count int
	}{{api.Affine, "affine", 6}, {api.Homog, "homog", 9}, {api.Lens, "lens", 7}, {api.Mesh, "mesh", 0}, {api.Shear, "shear", 4}, {api.Turn, "turn", 3}} {
		if want.kind != i+1 || xform.Name(want.kind) != want.name || xform.Count(want.kind) != want.count {
			t.Errorf("kind %d: %q %d", want.kind, xform.Name(want.kind), xform.Count(want.kind))
		}
		if kind, is := xform.Named(want.name); kind != want.kind || !is {
			t.Errorf("Named(%q): %d %v", want.name, kind, is)
		}
	}
	for _, kind := range nothing {
		if xform.Name(kind) != "" || xform.Count(kind) != 0 {
			t.Errorf("kind %d: %q %d", kind, xform.Name(kind), xform.Count(kind))
		}
	}
	for _, s := range []string{"", " ", "Affine", "affin", "affine ", " turn", "turns", "TURN", "1", "\xff", "mesh\n"} {
		if kind, is := xform.Named(s); kind != 0 || is {
			t.Errorf("Named(%q): %d %v", s, kind, is)
		}
	}
}

// every is what all calls tell.
func every(m *xform.Map, s sight, p place) string {
	u, v, e := m.At(p.px, p.py, p.d)
	w, h := m.Size()
	_, code := xform.New(s.t, s.w, s.h)
	kind, is := xform.Named(xform.Name(s.t.Kind))
	return fmt.Sprint(u, v, e, w, h, m.Kind(), code, xform.Check(s.t, s.w, s.h), xform.Whole(s.w, s.h), kind, is, xform.Count(s.t.Kind))
}

// P1 and P2: all end at all edges, wrong ones too, and tell the same again, whatever was called between.
func TestP1_P2_TheSameAgain(t *testing.T) {
	l, where := append(sights(), bad()...), places()
	for _, kind := range nothing {
		l = append(l, sight{api.Xform{Kind: kind, C: []int64{1, 2, 3}}, kind, 1})
	}
	var kept []*xform.Map
	for _, s := range l {
		m, _ := xform.New(s.t, s.w, s.h)
		kept = append(kept, m)
	}
	told := func(i int) string { return every(kept[i%40], l[i*7%len(l)], where[i*11%len(where)]) }
	var first []string
	for i := range 10000 {
		first = append(first, told(i))
	}
	for i := len(first) - 1; i >= 0; i-- {
		if again := told(i); again != first[i] {
			t.Fatalf("%d: %s, then %s", i, first[i], again)
		}
	}
}
