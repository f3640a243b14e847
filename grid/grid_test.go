package grid_test

import (
	"fmt"
	"math"
	"slices"
	"testing"

	"anamorph/api"
	"anamorph/grid"
)

// small are grids of small images, with tiles that the last row and column cut, that fit, and that are larger than the image.
func small() []grid.Grid {
	var l []grid.Grid
	for _, w := range []int{1, 2, 3, 5, 6} {
		for _, h := range []int{1, 2, 4, 7} {
			for _, tw := range []int{1, 2, 3, 5, 9, 4096} {
				for _, th := range []int{1, 2, 3, 7, 4096} {
					l = append(l, grid.Grid{W: w, H: h, TW: tw, TH: th})
				}
			}
		}
	}
	return l
}

// large are grids at the ends of what may be.
var large = []grid.Grid{
	{W: 32768, H: 32768, TW: 4096, TH: 4096}, {W: 32768, H: 32768, TW: 1, TH: 1}, {W: 32767, H: 32765, TW: 4095, TH: 2},
	{W: 32768, H: 1, TW: 1, TH: 4096}, {W: 1, H: 32768, TW: 4096, TH: 3}, {W: 4097, H: 4095, TW: 4096, TH: 4096},
}

// bad is a grid that isn't right, and its code.
type bad struct {
	g    grid.Grid
	want api.Errno
}

// wrong are grids that aren't right; of several errors the first one counts.
func wrong() []bad {
	least, most := math.MinInt, math.MaxInt
	return []bad{
		{grid.Grid{W: 32769, H: 1, TW: 1, TH: 1}, api.ErrLimit},
		{grid.Grid{W: 1, H: 32769, TW: 1, TH: 1}, api.ErrLimit},
		{grid.Grid{W: 32769, H: 0, TW: 0, TH: 0}, api.ErrLimit},
		{grid.Grid{W: -1, H: 32769, TW: 1, TH: 5000}, api.ErrLimit},
		{grid.Grid{W: most, H: most, TW: most, TH: most}, api.ErrLimit},
		{grid.Grid{W: most, H: least, TW: 1, TH: 1}, api.ErrLimit},
		{grid.Grid{}, api.ErrSize},
		{grid.Grid{W: 0, H: 1, TW: 1, TH: 1}, api.ErrSize},
		{grid.Grid{W: 1, H: 0, TW: 1, TH: 1}, api.ErrSize},
		{grid.Grid{W: -5, H: 32768, TW: 0, TH: 1}, api.ErrSize},
		{grid.Grid{W: least, H: least, TW: least, TH: least}, api.ErrSize},
		{grid.Grid{W: 5, H: 5, TW: 0, TH: 1}, api.ErrArg},
		{grid.Grid{W: 5, H: 5, TW: 1, TH: 0}, api.ErrArg},
		{grid.Grid{W: 5, H: 5, TW: -1, TH: 1}, api.ErrArg},
		{grid.Grid{W: 5, H: 5, TW: 1, TH: -1}, api.ErrArg},
		{grid.Grid{W: 5, H: 5, TW: 4097, TH: 1}, api.ErrArg},
		{grid.Grid{W: 5, H: 5, TW: 1, TH: 4097}, api.ErrArg},
		{grid.Grid{W: 32768, H: 32768, TW: most, TH: least}, api.ErrArg},
	}
}

// tiles are a small grid's tiles, cut one behind the other.
func tiles(g grid.Grid) []api.Rect {
	var l []api.Rect
	for y := 0; y < g.H; y += g.TH {
		for x := 0; x < g.W; x += g.TW {
			l = append(l, api.Rect{X0: x, Y0: y, X1: min(x+g.TW, g.W), Y1: min(y+g.TH, g.H)})
		}
	}
	return l
}

// meet tells whether two rectangles have a place in common.
func meet(a, b api.Rect) bool {
	return max(a.X0, b.X0) < min(a.X1, b.X1) && max(a.Y0, b.Y0) < min(a.Y1, b.Y1)
}

func TestP9_1_Check(t *testing.T) {
	for _, c := range wrong() {
		if e := grid.Check(c.g); e != c.want {
			t.Errorf("Check(%v): %v, not %v", c.g, e, c.want)
		}
	}
	for _, g := range append(small(), large...) {
		if e := grid.Check(g); e != api.OK {
			t.Errorf("Check(%v): %v", g, e)
		}
	}
}

func TestP9_1_WrongOnes(t *testing.T) {
	for _, c := range wrong() {
		if grid.Cols(c.g) != 0 || grid.Rows(c.g) != 0 || grid.Count(c.g) != 0 {
			t.Errorf("%v: %d, %d, %d", c.g, grid.Cols(c.g), grid.Rows(c.g), grid.Count(c.g))
		}
		for _, i := range []int{-1, 0, 1, math.MaxInt} {
			if r, is := grid.Tile(c.g, i); r != (api.Rect{}) || is {
				t.Errorf("Tile(%v, %d): %v %v", c.g, i, r, is)
			}
			if l := grid.Beside(c.g, i); len(l) != 0 {
				t.Errorf("Beside(%v, %d): %v", c.g, i, l)
			}
			if n, is := grid.Of(c.g, i, i); n != 0 || is {
				t.Errorf("Of(%v, %d, %d): %d %v", c.g, i, i, n, is)
			}
		}
		if l := grid.Over(c.g, api.Rect{X1: 1, Y1: 1}); len(l) != 0 {
			t.Errorf("Over(%v): %v", c.g, l)
		}
	}
}

func TestP9_2_Tiles(t *testing.T) {
	for _, g := range small() {
		want := tiles(g)
		cols, rows := 0, 0
		for _, r := range want {
			if r.Y0 == 0 {
				cols++
			}
			if r.X0 == 0 {
				rows++
			}
		}
		if grid.Cols(g) != cols || grid.Rows(g) != rows || grid.Count(g) != len(want) {
			t.Fatalf("%v: %d, %d, %d", g, grid.Cols(g), grid.Rows(g), grid.Count(g))
		}
		for i := range want {
			if r, is := grid.Tile(g, i); r != want[i] || !is {
				t.Fatalf("Tile(%v, %d): %v %v, not %v", g, i, r, is, want[i])
			}
		}
		for _, i := range []int{math.MinInt, -1, len(want), len(want) + 1, math.MaxInt} {
			if r, is := grid.Tile(g, i); r != (api.Rect{}) || is {
				t.Fatalf("Tile(%v, %d): %v %v", g, i, r, is)
			}
		}
	}
	g := grid.Grid{W: 5, H: 4, TW: 2, TH: 3}
	if r, is := grid.Tile(g, 5); grid.Cols(g) != 3 || grid.Rows(g) != 2 || r != (api.Rect{X0: 4, Y0: 3, X1: 5, Y1: 4}) || !is {
		t.Errorf("the example: %d, %d, %v", grid.Cols(g), grid.Rows(g), r)
	}
}

func TestP9_2_LargeOnes(t *testing.T) {
	for i, c := range []struct {
		cols, rows int
		last       api.Rect
	}{
		{8, 8, api.Rect{X0: 28672, Y0: 28672, X1: 32768, Y1: 32768}},
		{32768, 32768, api.Rect{X0: 32767, Y0: 32767, X1: 32768, Y1: 32768}},
		{9, 16383, api.Rect{X0: 32760, Y0: 32764, X1: 32767, Y1: 32765}},
		{32768, 1, api.Rect{X0: 32767, Y0: 0, X1: 32768, Y1: 1}},
		{1, 10923, api.Rect{X0: 0, Y0: 32766, X1: 1, Y1: 32768}},
		{2, 1, api.Rect{X0: 4096, Y0: 0, X1: 4097, Y1: 4095}},
	} {
		g, n := large[i], c.cols*c.rows
		if grid.Cols(g) != c.cols || grid.Rows(g) != c.rows || grid.Count(g) != n {
			t.Errorf("%v: %d, %d, %d", g, grid.Cols(g), grid.Rows(g), grid.Count(g))
		}
		if r, is := grid.Tile(g, n-1); r != c.last || !is {
			t.Errorf("last Tile of %v: %v %v", g, r, is)
		}
		if k, is := grid.Of(g, g.W-1, g.H-1); k != n-1 || !is {
			t.Errorf("Of the last place of %v: %d %v", g, k, is)
		}
		if l := grid.Over(g, api.Rect{X0: g.W - 1, Y0: g.H - 1, X1: 1 << 31, Y1: 1 << 31}); !slices.Equal(l, []int{n - 1}) {
			t.Errorf("Over the last place of %v: %v", g, l)
		}
		if r, is := grid.Tile(g, n); r != (api.Rect{}) || is {
			t.Errorf("behind the last Tile of %v: %v %v", g, r, is)
		}
	}
}

func TestP9_2_P9_4_Of(t *testing.T) {
	for _, g := range small() {
		all := tiles(g)
		for y := -2; y <= g.H+2; y++ {
			for x := -2; x <= g.W+2; x++ {
				var have []int
				for i := range all {
					if meet(all[i], api.Rect{X0: x, Y0: y, X1: x + 1, Y1: y + 1}) {
						have = append(have, i)
					}
				}
				i, is := grid.Of(g, x, y)
				if is != (len(have) == 1) || len(have) > 1 || is && i != have[0] || !is && i != 0 {
					t.Fatalf("Of(%v, %d, %d): %d %v, not %v", g, x, y, i, is, have)
				}
				if r, has := grid.Tile(g, i); is && (!has || x < r.X0 || x >= r.X1 || y < r.Y0 || y >= r.Y1) {
					t.Fatalf("Tile of Of(%v, %d, %d): %v", g, x, y, r)
				}
			}
		}
		for _, x := range []int{math.MinInt, -1 << 31, 1 << 31, math.MaxInt} {
			for _, p := range [][2]int{{x, 0}, {0, x}, {x, x}} {
				if i, is := grid.Of(g, p[0], p[1]); i != 0 || is {
					t.Fatalf("Of(%v, %v): %d %v", g, p, i, is)
				}
			}
		}
	}
}

func TestP9_3_Over(t *testing.T) {
	for _, g := range small() {
		all := tiles(g)
		for _, x0 := range []int{-1 << 31, -1, 0, 1, 3, g.W - 1, g.W} {
			for _, y0 := range []int{-1 << 31, -1, 0, 2, g.H - 1, g.H} {
				for _, x1 := range []int{-1, 0, 1, 2, g.W, g.W + 1, 1 << 31} {
					for _, y1 := range []int{-1, 1, 3, g.H, g.H + 1, 1 << 31} {
						r := api.Rect{X0: x0, Y0: y0, X1: x1, Y1: y1}
						var want []int
						for i := range all {
							if meet(all[i], r) {
								want = append(want, i)
							}
						}
						if l := grid.Over(g, r); !slices.Equal(l, want) {
							t.Fatalf("Over(%v, %v): %v, not %v", g, r, l, want)
						}
					}
				}
			}
		}
		over := 1<<31 + 1
		for _, r := range []api.Rect{{}, {X0: -over, X1: 5, Y1: 5}, {Y0: -over, X1: 5, Y1: 5}, {X1: over, Y1: 5}, {X1: 5, Y1: over}, {X1: math.MaxInt, Y1: math.MaxInt}} {
			if l := grid.Over(g, r); len(l) != 0 {
				t.Fatalf("Over(%v, %v): %v", g, r, l)
			}
		}
	}
}

func TestP9_3_Beside(t *testing.T) {
	for _, g := range small() {
		all := tiles(g)
		for i, r := range all {
			var want []int
			for _, side := range []api.Rect{
				{X0: r.X0, Y0: r.Y0 - 1, X1: r.X0 + 1, Y1: r.Y0}, {X0: r.X0 - 1, Y0: r.Y0, X1: r.X0, Y1: r.Y0 + 1},
				{X0: r.X1, Y0: r.Y0, X1: r.X1 + 1, Y1: r.Y0 + 1}, {X0: r.X0, Y0: r.Y1, X1: r.X0 + 1, Y1: r.Y1 + 1},
			} {
				for k := range all {
					if meet(all[k], side) {
						want = append(want, k)
					}
				}
			}
			if l := grid.Beside(g, i); !slices.Equal(l, want) {
				t.Fatalf("Beside(%v, %d): %v, not %v", g, i, l, want)
			}
		}
		for _, i := range []int{math.MinInt, -1, len(all), len(all) + 1, math.MaxInt} {
			if l := grid.Beside(g, i); len(l) != 0 {
				t.Fatalf("Beside(%v, %d): %v", g, i, l)
			}
		}
	}
	g := grid.Grid{W: 3, H: 3, TW: 1, TH: 1}
	for i, want := range []string{"[1 3]", "[0 2 4]", "[1 5]", "[0 4 6]", "[1 3 5 7]", "[2 4 8]", "[3 7]", "[4 6 8]", "[5 7]"} {
		if l := grid.Beside(g, i); fmt.Sprint(l) != want {
			t.Errorf("beside %d of nine: %v, not %s", i, l, want)
		}
	}
}

func TestP9_4_JustOne(t *testing.T) {
	for _, g := range append(small(), large[0], large[5]) {
		seen := 0
		for i := range grid.Count(g) {
			r, _ := grid.Tile(g, i)
			seen += (r.X1 - r.X0) * (r.Y1 - r.Y0)
			for _, p := range [][2]int{{r.X0, r.Y0}, {r.X1 - 1, r.Y0}, {r.X0, r.Y1 - 1}, {r.X1 - 1, r.Y1 - 1}} {
				if k, is := grid.Of(g, p[0], p[1]); k != i || !is {
					t.Fatalf("%v: corner %v of tile %d is in %d", g, p, i, k)
				}
			}
			if l := grid.Over(g, r); !slices.Equal(l, []int{i}) {
				t.Fatalf("%v: over tile %d: %v", g, i, l)
			}
		}
		if seen != g.W*g.H {
			t.Errorf("%v: %d places", g, seen)
		}
	}
}

// every is what all calls tell of a grid and a number.
func every(g grid.Grid, i int) string {
	r, is := grid.Tile(g, i)
	n, has := grid.Of(g, i, i/2)
	over := grid.Over(g, api.Rect{X0: min(i, 5), Y0: 1, X1: 8, Y1: 8})
	return fmt.Sprint(grid.Check(g), grid.Cols(g), grid.Rows(g), grid.Count(g), r, is, n, has, over, grid.Beside(g, i))
}

// P1 and P2: all end at all edges, wrong grids too, and tell the same again, whatever was called between.
func TestP1_P2_TheSameAgain(t *testing.T) {
	all := append(small(), large...)
	for _, c := range wrong() {
		all = append(all, c.g)
	}
	numbers := []int{0, 1, -1, 2, 5, 7, 20, math.MinInt, math.MaxInt}
	var first []string
	for i, g := range all {
		first = append(first, every(g, numbers[i%len(numbers)]))
	}
	for i := len(all) - 1; i >= 0; i-- {
		if again := every(all[i], numbers[i%len(numbers)]); again != first[i] {
			t.Fatalf("%v: %s, then %s", all[i], first[i], again)
		}
	}
}
