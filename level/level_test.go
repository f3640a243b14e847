package level_test

import (
	"fmt"
	"math"
	"math/big"
	"testing"

	"anamorph/affine"
	"anamorph/api"
	"anamorph/homog"
	"anamorph/lens"
	"anamorph/level"
	"anamorph/mesh"
	"anamorph/shear"
	"anamorph/xform"
)

const (
	one = 65536
	far = 1 << 46
)

// edges are numbers at the ends of an int64.
var edges = []int64{math.MinInt64, math.MinInt64 + 1, -1 << 62, -far - 1, far + 1, 1 << 62, math.MaxInt64 - 1, math.MaxInt64}

// mosts are greatest levels, some of them beyond any pyramid.
var mosts = []int{math.MinInt, -1 << 40, -2, -1, 0, 1, 2, 3, 7, 13, 14, 15, 16, 17, 62, 63, 64, 65, 1 << 40, math.MaxInt}

// made is a transform's map.
func made(t *testing.T, kind, w, h int, c ...int64) *xform.Map {
	t.Helper()
	m, e := xform.New(api.Xform{Kind: kind, C: c}, w, h)
	if e != api.OK {
		t.Fatalf("%d %v, for %d by %d: %v", kind, c, w, h, e)
	}
	return m
}

// maps are of each kind, for images of one pixel, one row, one column, and others.
func maps(t *testing.T) []*xform.Map {
	var l []*xform.Map
	for _, s := range [][2]int{{1, 1}, {2, 1}, {1, 2}, {5, 1}, {1, 4}, {2, 2}, {7, 5}, {9, 11}} {
		w, h := s[0], s[1]
		l = append(l,
			made(t, api.Affine, w, h, affine.Unit()...),
			made(t, api.Affine, w, h, one/4, 0, 5, 0, -one/8, 7),
			made(t, api.Affine, w, h, one/3, one/5, 0, -one/7, one/2, 99),
			made(t, api.Affine, w, h, 0, -one/3, 0, one*5, 0, 0),
			made(t, api.Affine, w, h, 1, 0, 0, 0, 1<<24, 0),
			made(t, api.Affine, w, h, 1<<24, 0, 1<<31, 0, -1, -1<<31),
			made(t, api.Affine, w, h, 2, 1, 0, 1, 1, 0),
			made(t, api.Homog, w, h, one, 0, 0, 0, one, 0, 4096, 0, one),
			made(t, api.Homog, w, h, one/3, 99, -one*9, -7, one/5, 5*one, -1033, 544, one),
			made(t, api.Homog, w, h, homog.Of([]int64{one, one / 2, 0, 0, one, 0})...),
			made(t, api.Lens, w, h, lens.Plain(one, one, 3)...),
			made(t, api.Lens, w, h, 3*one, 2*one, 6, 60000, 44444, -3000, 7000),
			made(t, api.Lens, w, h, 0, 9*one, 4, -20000, 65536, 65536, -65536),
			made(t, api.Mesh, w, h, mesh.Plain(4, 4, 3, 3)...),
			made(t, api.Mesh, w, h, 9, 11, 1, 1, -1<<31, 1<<31, 7, -9, 1<<31, 1<<31, 100, -1<<31),
			made(t, api.Shear, w, h, shear.Quarter(3)...),
			made(t, api.Shear, w, h, 1<<18, -1<<18, 2, -3),
			made(t, api.Turn, w, h, 1, 9, 4), made(t, api.Turn, w, h, 6, 9, 4),
		)
	}
	return append(l,
		made(t, api.Affine, 32768, 32768, 1, 0, 0, 0, 1, 0), // places beyond Far are cut: there neighbours come from one
		made(t, api.Affine, 32768, 32768, 1, 0, -1<<31, 0, -1, 1<<31),
		made(t, api.Affine, 32768, 3, 1<<24, -1<<24, -1<<31, 1<<24, 1<<24, 1<<31),
		made(t, api.Lens, 32768, 32768, 1<<31, -1<<31, 32768, one, one, -one, one),
		made(t, api.Mesh, 32768, 32768, mesh.Plain(1024, 512, 32, 64)...),
		made(t, api.Shear, 2, 32768, 1<<18, -1<<18, 32768, -32768),
	)
}

// some are numbers below n: all, or those at the ends and in the middle, if they are many.
func some(n int) []int {
	var l []int
	for i := range min(n, 12) {
		l = append(l, i)
	}
	if n > 12 {
		l = append(l, n/2-1, n/2, n/2+1, n-2, n-1)
	}
	return l
}

// pixels are a map's pixels, some of them, if they are many.
func pixels(m *xform.Map) [][2]int {
	var l [][2]int
	w, h := m.Size()
	for _, y := range some(h) {
		for _, x := range some(w) {
			l = append(l, [2]int{x, y})
		}
	}
	return l
}

// apart is how far apart the places are from which two pixels come.
func apart(m *xform.Map, x, y, i, j int) int64 {
	u, v, _ := m.At(int64(x), int64(y), 1)
	s, r, _ := m.At(int64(i), int64(j), 1)
	return max(u-s, s-u, v-r, r-v)
}

// reach is how far apart neighbours come from.
func reach(m *xform.Map, x, y int) int64 {
	w, h := m.Size()
	d := int64(0)
	if x+1 < w {
		d = apart(m, x, y, x+1, y)
	} else if x > 0 {
		d = apart(m, x, y, x-1, y)
	}
	if y+1 < h {
		d = max(d, apart(m, x, y, x, y+1))
	} else if y > 0 {
		d = max(d, apart(m, x, y, x, y-1))
	}
	return d
}

// pick is the level of a distance.
func pick(d int64, most int) int {
	level := 0
	for k := 0; k <= 15 && k <= most; k++ {
		if d >= one*(1<<k) {
			level = k
		}
	}
	return level
}

func TestP32_1_Pick(t *testing.T) {
	l := append([]int64{0, 1, -1, 5, 65000, 100000, 200000}, edges...)
	for k := range 47 {
		for _, beside := range []int64{-2, -1, 0, 1, 2} {
			l = append(l, 1<<k+beside, -1<<k+beside, 3<<k+beside)
		}
	}
	for _, d := range l {
		for _, most := range mosts {
			if got, want := level.Pick(d, most), pick(d, most); got != want {
				t.Errorf("Pick(%d, %d): %d, not %d", d, most, got, want)
			}
		}
	}
	for _, c := range []struct {
		d    int64
		most int
		want int
	}{{262144, 9, 2}, {262143, 9, 1}, {131072, 9, 1}, {131071, 9, 0}, {65536, 9, 0}, {262144, 1, 1}, {1 << 31, 99, 15}, {1<<31 - 1, 99, 14}, {1 << 40, 99, 15}, {1 << 40, 15, 15}, {1 << 40, 14, 14}, {1 << 40, -1, 0}, {-1 << 40, 5, 0}} {
		if got := level.Pick(c.d, c.most); got != c.want {
			t.Errorf("Pick(%d, %d): %d, not %d", c.d, c.most, got, c.want)
		}
	}
}

func TestP32_2_Reach(t *testing.T) {
	for i, m := range maps(t) {
		w, h := m.Size()
		for _, p := range pixels(m) {
			want := reach(m, p[0], p[1])
			if d, e := level.Reach(m, p[0], p[1]); d != want || e != api.OK {
				t.Fatalf("map %d (%d), pixel %v of %d by %d: %d %v, not %d", i, m.Kind(), p, w, h, d, e, want)
			}
			for _, most := range mosts {
				if k, e := level.Of(m, p[0], p[1], most); k != pick(want, most) || e != api.OK {
					t.Fatalf("map %d (%d), pixel %v of %d by %d, at most %d: %d %v, not %d", i, m.Kind(), p, w, h, most, k, e, pick(want, most))
				}
			}
		}
	}
}

func TestP32_2_ReachByHand(t *testing.T) {
	for _, c := range []struct {
		kind, w, h, x, y int
		c                []int64
		want             int64
	}{
		{api.Affine, 3, 3, 0, 0, []int64{one / 4, 0, 0, 0, one / 2, 0}, 4 * one}, // the columns are further apart
		{api.Affine, 3, 3, 2, 2, []int64{-one / 2, 0, 0, 0, one / 4, 0}, 4 * one},
		{api.Affine, 1, 3, 0, 2, []int64{one / 4, 0, 0, 0, one / 2, 0}, 2 * one},
		{api.Affine, 3, 1, 2, 0, []int64{one, 0, 0, 0, one / 2, 0}, one},
		{api.Affine, 3, 1, 2, 0, []int64{0, one / 8, 0, one, 0, 0}, 8 * one}, // a column to the right comes from below
		{api.Affine, 1, 1, 0, 0, []int64{one / 4, 0, 0, 0, one / 2, 0}, 0},
		{api.Turn, 3, 4, 2, 3, []int64{1, 4, 3}, one},
		{api.Lens, 4, 1, 0, 0, []int64{0, 0, 1, one, 0, 0, 0}, 2 * one}, // 0, 2, 10, 30
		{api.Lens, 4, 1, 1, 0, []int64{0, 0, 1, one, 0, 0, 0}, 8 * one},
		{api.Lens, 4, 1, 2, 0, []int64{0, 0, 1, one, 0, 0, 0}, 20 * one},
		{api.Lens, 4, 1, 3, 0, []int64{0, 0, 1, one, 0, 0, 0}, 20 * one}, // the one to the left
		{api.Lens, 1, 4, 0, 0, []int64{0, 0, 1, one, 0, 0, 0}, 2 * one},
		{api.Lens, 1, 4, 0, 3, []int64{0, 0, 1, one, 0, 0, 0}, 20 * one},
		{api.Affine, 32768, 1, 16383, 0, []int64{1, 0, 0, 0, 1, 0}, 1 << 32},
		{api.Affine, 32768, 1, 16384, 0, []int64{1, 0, 0, 0, 1, 0}, 0}, // both are cut
	} {
		m := made(t, c.kind, c.w, c.h, c.c...)
		if d, e := level.Reach(m, c.x, c.y); d != c.want || e != api.OK {
			t.Errorf("%v, pixel %d, %d of %d by %d: %d %v, not %d", c.c, c.x, c.y, c.w, c.h, d, e, c.want)
		}
	}
	m := made(t, api.Affine, 2, 2, one/4, 0, 0, 0, one/4, 0)
	for most, want := range []int{0, 1, 2, 2, 2} {
		if k, e := level.Of(m, 1, 1, most); k != want || e != api.OK {
			t.Errorf("at most %d: %d %v, not %d", most, k, e, want)
		}
	}
}

func TestP32_2_Wrong(t *testing.T) {
	beside := func(n int) []int { return []int{-1, n, n + 1, -n - 1, math.MinInt, math.MaxInt, 1 << 32, 1<<32 - n} }
	for _, x := range append([]int{0, 1}, beside(3)...) {
		for _, y := range []int{0, -1, 5, math.MinInt} {
			if d, e := level.Reach(nil, x, y); d != 0 || e != api.ErrArg {
				t.Errorf("of none: %d %v", d, e)
			}
			if k, e := level.Of(nil, x, y, 9); k != 0 || e != api.ErrArg {
				t.Errorf("of none: %d %v", k, e)
			}
		}
	}
	for _, m := range maps(t) {
		w, h := m.Size()
		none := func(x, y int) {
			t.Helper()
			if d, e := level.Reach(m, x, y); d != 0 || e != api.ErrRange {
				t.Errorf("pixel %d, %d of %d by %d: %d %v", x, y, w, h, d, e)
			}
			if k, e := level.Of(m, x, y, 9); k != 0 || e != api.ErrRange {
				t.Errorf("pixel %d, %d of %d by %d: %d %v", x, y, w, h, k, e)
			}
		}
		for _, x := range beside(w) {
			none(x, 0)
			none(x, h-1)
			for _, y := range beside(h) {
				none(x, y)
			}
		}
		for _, y := range beside(h) {
			none(0, y)
			none(w-1, y)
		}
	}
}

// images are numbers of images of a pyramid; some are none, and are cut.
var images = []int{math.MinInt, -65, -64, -1, 0, 1, 2, 3, 5, 8, 13, 14, 15, 16, 17, 63, 64, 65, math.MaxInt}

// places are such from -Far to Far, at and beside halves and wholes of pixels of all levels.
func places() []int64 {
	var l []int64
	for k := range 47 {
		for _, beside := range []int64{-1, 0, 1, 32768} {
			for _, u := range []int64{1<<k + beside, -1<<k + beside, 3<<k + beside, -5<<k - beside} {
				if -far <= u && u <= far {
					l = append(l, u)
				}
			}
		}
	}
	return append(l, 0, far, -far, far-1, 1-far, 123456789, -987654321)
}

// cut is a level, at most 15.
func cut(k int) int { return min(max(k, 0), 15) }

func TestP32_3_To(t *testing.T) {
	for _, u := range places() {
		for _, k := range images {
			n := new(big.Int).Lsh(big.NewInt(1), uint(cut(k)))
			off := new(big.Int).Sub(n, big.NewInt(1))
			off.Mul(off, big.NewInt(32768))
			to := new(big.Int).Sub(big.NewInt(u), off)
			to.Div(to, n) // of a divisor above 0 it rounds down
			if got := level.To(u, k); got != to.Int64() {
				t.Errorf("To(%d, %d): %d, not %v", u, k, got, to)
			}
			from := new(big.Int).Mul(big.NewInt(u), n)
			from.Add(from, off)
			if got := level.From(u, k); got != from.Int64() {
				t.Errorf("From(%d, %d): %d, not %v", u, k, got, from)
			}
		}
	}
	for _, c := range []struct {
		u    int64
		k    int
		want int64
	}{{32768, 1, 0}, {0, 1, -16384}, {0, 0, 0}, {-1, 0, -1}, {32767, 1, -1}, {32769, 1, 0}, {32770, 1, 1}, {98304, 2, 0}, {98303, 2, -1}, {1073709056, 15, 0}, {1073709056, 16, 0}, {1073741824, 15, 1}} {
		if got := level.To(c.u, c.k); got != c.want {
			t.Errorf("To(%d, %d): %d, not %d", c.u, c.k, got, c.want)
		}
	}
	for _, c := range []struct {
		u    int64
		k    int
		want int64
	}{{0, 1, 32768}, {1, 1, 32770}, {-1, 2, 98300}, {0, 15, 1073709056}, {7, 0, 7}, {7, -3, 7}} {
		if got := level.From(c.u, c.k); got != c.want {
			t.Errorf("From(%d, %d): %d, not %d", c.u, c.k, got, c.want)
		}
	}
}

func TestP32_4_NeverFalls(t *testing.T) {
	for _, most := range mosts {
		last := 0
		for d := int64(-200000); d < 1<<33; d += 1 + max(d, 0)/37 {
			k := level.Pick(d, most)
			if k < last {
				t.Fatalf("Pick(%d, %d): %d, after %d", d, most, k, last)
			}
			last = k
		}
	}
}

func TestP32_4_Back(t *testing.T) {
	for _, u := range places() {
		for _, k := range images {
			if got := level.To(level.From(u, k), k); got != u {
				t.Errorf("To of From of %d, %d: %d", u, k, got)
			}
		}
	}
}

func TestP32_4_Unchanged(t *testing.T) {
	for _, s := range [][2]int{{1, 1}, {3, 1}, {1, 3}, {6, 5}} {
		for _, m := range []*xform.Map{
			made(t, api.Affine, s[0], s[1], affine.Unit()...), made(t, api.Homog, s[0], s[1], homog.Of(affine.Unit())...),
			made(t, api.Lens, s[0], s[1], lens.Plain(2*one, one, 4)...), made(t, api.Mesh, s[0], s[1], mesh.Plain(3, 2, 2, 4)...),
			made(t, api.Shear, s[0], s[1], 0, 0, 0, 0), made(t, api.Turn, s[0], s[1], 0, 1, 1),
		} {
			for _, p := range pixels(m) {
				for _, most := range mosts {
					if k, e := level.Of(m, p[0], p[1], most); k != 0 || e != api.OK {
						t.Fatalf("kind %d, pixel %v, at most %d: %d %v", m.Kind(), p, most, k, e)
					}
				}
			}
		}
	}
}

// P1 and P2: all end at all edges, wrong ones too, and tell the same again, whatever was called between.
func TestP1_P2_TheSameAgain(t *testing.T) {
	l := append(maps(t), nil)
	all := append(places(), edges...)
	told := func(i int) string {
		m, u, most := l[i%len(l)], all[i*11%len(all)], mosts[i%len(mosts)]
		d, e := level.Reach(m, i%13-2, i%7-1)
		k, code := level.Of(m, i%13-2, i%7-1, most)
		return fmt.Sprint(d, e, k, code, level.Pick(u, most), level.To(u, most), level.From(u, most))
	}
	var first []string
	for i := range 20000 {
		first = append(first, told(i))
	}
	for i := len(first) - 1; i >= 0; i-- {
		if again := told(i); again != first[i] {
			t.Fatalf("%d: %s, then %s", i, first[i], again)
		}
	}
}
