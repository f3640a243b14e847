package plan_test

import (
	"fmt"
	"math"
	"slices"
	"testing"

	"anamorph/api"
	"anamorph/border"
	"anamorph/box"
	"anamorph/grid"
	"anamorph/level"
	"anamorph/mip"
	"anamorph/plan"
	"anamorph/sample"
)

const (
	one = 65536
	far = 1 << 46
)

var kernels = []int{api.Near, api.Linear, api.Cubic, api.Super}

var modes = []int{api.Const, api.Clamp, api.Wrap, api.Mirror}

// next is numbers without any pattern.
func next(x *uint64, n int64) int64 {
	*x = *x*6364136223846793005 + 1442695040888963407
	return int64(*x>>31) % n
}

// size is how large an image is, and its tiles.
type size struct{ w, h, tw, th int }

// sizes are of images of one pixel, one row, one column, and others; tiles of one pixel, and larger than the image.
func sizes() []size {
	return []size{{1, 1, 1, 1}, {1, 1, 9, 4}, {7, 1, 2, 1}, {1, 6, 5, 4}, {4, 4, 2, 2}, {9, 7, 2, 3}, {9, 7, 1, 1}, {9, 7, 100, 4096}, {12, 5, 5, 2}, {5, 13, 4, 4}, {17, 16, 8, 8}, {33, 20, 6, 5}}
}

// boxes are such of one place, and of many, within an image, at its borders, beyond them, and far away.
func boxes(w, h int) []box.Box {
	right, below := int64(w-1)*one, int64(h-1)*one
	l := []box.Box{
		{}, {U0: right, V0: below, U1: right, V1: below}, {U1: right, V1: below}, {U0: -one / 2, V0: -one / 2, U1: right + one/2, V1: below + one/2}, {U0: -one/2 - 1, V0: 0, U1: -one/2 - 1, V1: 0},
		{U0: right + one/2, V0: 0, U1: right + one/2, V1: below}, {U0: -one, V0: -one, U1: -one, V1: below}, {U0: -3 * one, V0: 0, U1: -2 * one, V1: below}, {U0: right + 2*one, V0: below + 2*one, U1: right + 3*one, V1: below + 5*one},
		{U0: 32767, V0: 32768, U1: 32767, V1: 32768}, {U0: 1, V0: -1, U1: 1, V1: -1}, {U0: -2 * right, V0: -2 * below, U1: 2*right + one, V1: 2*below + one}, {U0: right / 2, V0: below / 2, U1: right/2 + 1, V1: below/2 + 1},
		{U0: -far, V0: -far, U1: -far, V1: -far}, {U0: far, V0: far, U1: far, V1: far}, {U0: far, V0: -far, U1: far, V1: -far}, {U0: 1 << 40, V0: -1 << 39, U1: 1<<40 + 4*one, V1: 5*one - 1<<39},
	}
	x := uint64(w*100 + h)
	for range 12 {
		u, v := next(&x, 4*right+9*one)-2*right-4*one, next(&x, 4*below+9*one)-2*below-4*one
		l = append(l, box.Box{U0: u, V0: v, U1: u + next(&x, right+2*one), V1: v + next(&x, below+2*one)})
	}
	return l
}

// jobs are right ones.
func jobs() []plan.Job {
	var l []plan.Job
	for _, s := range sizes() {
		for _, b := range boxes(s.w, s.h) {
			for _, kernel := range kernels {
				for _, mode := range modes {
					l = append(l, plan.Job{Box: b, Kernel: kernel, Border: api.Border{Mode: mode, Color: [4]byte{1, 2}}, W: s.w, H: s.h, Levels: mip.Count(s.w, s.h, 15), TW: s.tw, TH: s.th})
				}
			}
		}
	}
	return l
}

// asked are which of n columns are asked for when places from one to another one are, by the border. Of very many columns just those at the ends, and around the image, are looked at: between them nothing new comes.
func asked(kernel, mode int, from, to int64, n int) map[int]int {
	lo, hi := sample.Reach(kernel, from, to)
	l := map[int]int{}
	some := 4 * int64(n)
	for _, part := range [][2]int64{{lo, min(hi, lo+some)}, {max(lo, -some), min(hi, some)}, {max(lo, hi-some), hi}} {
		for i := part[0]; i <= part[1]; i++ {
			if k, is := border.Index(mode, i, n); is {
				l[k]++
			}
		}
	}
	return l
}

// want are the tiles of an image that have a column and a row that are asked for, as the document tells it.
func want(j plan.Job, k int) []int {
	w, h := mip.Size(j.W, j.H, k)
	b := j.Box
	columns := asked(j.Kernel, j.Border.Mode, level.To(b.U0, k), level.To(b.U1, k), w)
	rows := asked(j.Kernel, j.Border.Mode, level.To(b.V0, k), level.To(b.V1, k), h)
	var l []int
	g := grid.Grid{W: w, H: h, TW: j.TW, TH: j.TH}
	for i := range grid.Count(g) {
		r, _ := grid.Tile(g, i)
		across, along := 0, 0
		for x := r.X0; x < r.X1; x++ {
			across += columns[x]
		}
		for y := r.Y0; y < r.Y1; y++ {
			along += rows[y]
		}
		if across > 0 && along > 0 {
			l = append(l, i)
		}
	}
	return l
}

func TestP39_1_Right(t *testing.T) {
	for _, j := range jobs() {
		for _, n := range []int{1, 2, j.Levels} {
			j.Levels = min(n, j.Levels)
			if e := plan.Check(j); e != api.OK {
				t.Errorf("Check(%v): %v", j, e)
			}
		}
	}
	for _, j := range []plan.Job{
		{Kernel: api.Cubic, W: 32768, H: 32768, Levels: 16, TW: 4096, TH: 4096}, {W: 32768, H: 1, Levels: 16, TW: 1, TH: 1}, {W: 1, H: 1, Levels: 1, TW: 1, TH: 4096},
		{W: 2, H: 1, Levels: 2, TW: 1, TH: 1}, {W: 3, H: 3, Levels: 3, TW: 1, TH: 1}, {W: 1, H: 5, Levels: 4, TW: 1, TH: 1},
		{Box: box.Box{U0: -far, V0: -far, U1: far, V1: far}, Border: api.Border{Mode: api.Wrap}, W: 9, H: 9, Levels: 1, TW: 2, TH: 2},
	} {
		if e := plan.Check(j); e != api.OK {
			t.Errorf("Check(%v): %v", j, e)
		}
	}
}

// refused checks the code of a job that isn't right.
func refused(t *testing.T, j plan.Job, want api.Errno) {
	t.Helper()
	if e := plan.Check(j); e != want {
		t.Errorf("Check(%v): %v, not %v", j, e, want)
	}
	if l, e := plan.Of(j); len(l) != 0 || e != want {
		t.Errorf("Of(%v): %v %v, not %v", j, l, e, want)
	}
	for _, k := range []int{0, 1, -1, 99, math.MinInt, math.MaxInt} {
		if l, e := plan.Level(j, k); len(l) != 0 || e != want {
			t.Errorf("Level(%v, %d): %v %v, not %v", j, k, l, e, want)
		}
	}
}

// What is wrong, in the order in which it is told: each with all that is told later wrong, too, and with nothing else.
func TestP39_1_Wrong(t *testing.T) {
	type fault struct {
		do   func(j *plan.Job)
		want api.Errno
	}
	var steps [][]fault
	var kernel, mode, grids, levels, box []fault
	for _, n := range []int{-1, 4, 5, 1 << 32, -1 << 32, math.MinInt, math.MaxInt} {
		kernel = append(kernel, fault{func(j *plan.Job) { j.Kernel = n }, api.ErrArg})
		mode = append(mode, fault{func(j *plan.Job) { j.Border.Mode = n }, api.ErrArg})
	}
	for _, n := range []int{0, -1, math.MinInt} {
		grids = append(grids, fault{func(j *plan.Job) { j.W = n }, api.ErrSize}, fault{func(j *plan.Job) { j.H = n }, api.ErrSize}, fault{func(j *plan.Job) { j.W, j.H = n, 32769 }, api.ErrLimit},
			fault{func(j *plan.Job) { j.TW = n }, api.ErrArg}, fault{func(j *plan.Job) { j.TH = n }, api.ErrArg})
		levels = append(levels, fault{func(j *plan.Job) { j.Levels = n }, api.ErrRange})
	}
	for _, n := range []int{4097, 32769, 1 << 32, math.MaxInt} {
		grids = append(grids, fault{func(j *plan.Job) { j.TW = n }, api.ErrArg}, fault{func(j *plan.Job) { j.TH = n }, api.ErrArg})
		if n > 32768 {
			grids = append(grids, fault{func(j *plan.Job) { j.W = n }, api.ErrLimit}, fault{func(j *plan.Job) { j.H = n }, api.ErrLimit})
		}
	}
	for _, n := range []int{6, 15, 16, 17, math.MaxInt} { // of 9 columns there are five images
		levels = append(levels, fault{func(j *plan.Job) { j.Levels = n }, api.ErrRange})
	}
	for _, n := range []int64{far + 1, math.MaxInt64} {
		box = append(box, fault{func(j *plan.Job) { j.Box.U1 = n }, api.ErrRange}, fault{func(j *plan.Job) { j.Box.V1 = n }, api.ErrRange}, fault{func(j *plan.Job) { j.Box.U0 = -n }, api.ErrRange}, fault{func(j *plan.Job) { j.Box.V0 = -n }, api.ErrRange},
			fault{func(j *plan.Job) { j.Box.U0, j.Box.U1 = n, n }, api.ErrRange}, fault{func(j *plan.Job) { j.Box.V0, j.Box.V1 = -n, -n }, api.ErrRange}, fault{func(j *plan.Job) { j.Box.V0, j.Box.V1 = math.MinInt64, math.MinInt64 }, api.ErrRange})
	}
	box = append(box, fault{func(j *plan.Job) { j.Box.U0 = j.Box.U1 + 1 }, api.ErrRange}, fault{func(j *plan.Job) { j.Box.V0 = j.Box.V1 + 1 }, api.ErrRange}, fault{func(j *plan.Job) { j.Box.V0, j.Box.V1 = far, -far }, api.ErrRange})
	steps = append(steps, kernel, mode, grids, levels, box)
	for i, step := range steps {
		for n, f := range step {
			j := plan.Job{Box: boxes(9, 7)[2], Kernel: api.Linear, Border: api.Border{Mode: api.Wrap}, W: 9, H: 7, Levels: 3, TW: 4, TH: 4}
			f.do(&j)
			refused(t, j, f.want)
			for _, later := range steps[i+1:] {
				more := j
				later[n%len(later)].do(&more)
				refused(t, more, f.want)
			}
		}
	}
}

// More images than a pyramid has, by a pixel's difference.
func TestP39_1_Levels(t *testing.T) {
	for _, c := range [][3]int{{1, 1, 1}, {2, 1, 2}, {1, 2, 2}, {3, 1, 3}, {4, 4, 3}, {4, 5, 4}, {9, 1, 5}, {1, 16384, 15}, {16385, 1, 16}, {32768, 32768, 16}} {
		j := plan.Job{W: c[0], H: c[1], TW: 4096, TH: 4096, Levels: c[2]}
		if e := plan.Check(j); e != api.OK {
			t.Errorf("Check(%v): %v", j, e)
		}
		j.Levels++
		refused(t, j, api.ErrRange)
	}
}

func TestP39_2_Level(t *testing.T) {
	for _, j := range jobs() {
		for k := range j.Levels {
			l, e := plan.Level(j, k)
			if w := want(j, k); !slices.Equal(l, w) || e != api.OK {
				t.Fatalf("Level(%v, %d): %v %v, not %v", j, k, l, e, w)
			}
		}
		for _, k := range []int{-1, -2, j.Levels, j.Levels + 1, 15, 16, 64, math.MinInt, math.MaxInt} {
			if l, e := plan.Level(j, k); (k < 0 || k >= j.Levels) && (len(l) != 0 || e != api.ErrRange) {
				t.Fatalf("Level(%v, %d): %v %v", j, k, l, e)
			}
		}
	}
}

func TestP39_2_FewerLevels(t *testing.T) {
	for n, j := range jobs() {
		all := j.Levels
		j.Levels = n%all + 1
		for k := range all {
			l, e := plan.Level(j, k)
			if k >= j.Levels && (len(l) != 0 || e != api.ErrRange) || k < j.Levels && (!slices.Equal(l, want(j, k)) || e != api.OK) {
				t.Fatalf("Level(%v, %d): %v %v", j, k, l, e)
			}
		}
	}
}

func TestP39_2_Of(t *testing.T) {
	for n, j := range jobs() {
		j.Levels = n%j.Levels + 1
		var all []api.Tile
		for k := range j.Levels {
			for _, i := range want(j, k) {
				all = append(all, api.Tile{Level: k, I: i})
			}
		}
		if l, e := plan.Of(j); !slices.Equal(l, all) || e != api.OK {
			t.Fatalf("Of(%v): %v %v, not %v", j, l, e, all)
		}
	}
}

func TestP39_2_ByHand(t *testing.T) {
	for _, c := range []struct {
		j    plan.Job
		want []api.Tile
	}{
		{plan.Job{Border: api.Border{Mode: api.Clamp}, W: 4, H: 4, Levels: 1, TW: 2, TH: 2}, []api.Tile{{}}},
		{plan.Job{Kernel: api.Linear, Border: api.Border{Mode: api.Wrap}, W: 4, H: 4, Levels: 1, TW: 2, TH: 2, Box: box.Box{U0: 3 * one, U1: 3 * one}}, []api.Tile{{I: 0}, {I: 1}}},
		{plan.Job{Kernel: api.Cubic, Border: api.Border{Mode: api.Wrap}, W: 4, H: 4, Levels: 1, TW: 2, TH: 2}, []api.Tile{{I: 0}, {I: 1}, {I: 2}, {I: 3}}},
		{plan.Job{Kernel: api.Cubic, Border: api.Border{Mode: api.Clamp}, W: 6, H: 6, Levels: 1, TW: 3, TH: 3}, []api.Tile{{}}},
		{plan.Job{Kernel: api.Cubic, Border: api.Border{Mode: api.Wrap}, W: 6, H: 6, Levels: 1, TW: 2, TH: 2}, []api.Tile{{I: 0}, {I: 1}, {I: 2}, {I: 3}, {I: 4}, {I: 5}, {I: 6}, {I: 7}, {I: 8}}},
		{plan.Job{Kernel: api.Near, Border: api.Border{Mode: api.Const}, W: 4, H: 4, Levels: 3, TW: 2, TH: 2, Box: box.Box{U0: -one, U1: -one}}, nil},
		{plan.Job{Kernel: api.Near, Border: api.Border{Mode: api.Clamp}, W: 4, H: 4, Levels: 3, TW: 2, TH: 2, Box: box.Box{U0: 3 * one, V0: 9 * one, U1: 3 * one, V1: 9 * one}}, []api.Tile{{I: 3}, {Level: 1}, {Level: 2}}},
		{plan.Job{Kernel: api.Super, Border: api.Border{Mode: api.Mirror}, W: 8, H: 1, Levels: 2, TW: 2, TH: 1, Box: box.Box{U0: -4 * one, U1: -4 * one}}, []api.Tile{{I: 1}, {Level: 1, I: 0}, {Level: 1, I: 1}}}, // columns 3 and 2, then 1 and 2
	} {
		if l, e := plan.Of(c.j); !slices.Equal(l, c.want) || e != api.OK {
			t.Errorf("Of(%v): %v %v, not %v", c.j, l, e, c.want)
		}
	}
}

// Images as wide and high as may be: few tiles of many.
func TestP39_2_Great(t *testing.T) {
	j := plan.Job{Kernel: api.Linear, Border: api.Border{Mode: api.Wrap}, W: 32768, H: 32768, Levels: 16, TW: 1, TH: 1, Box: box.Box{U0: 32767 * one, V0: 32767 * one, U1: 32767 * one, V1: 32767 * one}}
	l, e := plan.Of(j)
	last := 32768*32768 - 1
	if e != api.OK || !slices.Equal(l[:4], []api.Tile{{I: 0}, {I: 32767}, {I: last - 32767}, {I: last}}) || l[len(l)-1] != (api.Tile{Level: 15}) {
		t.Error(l, e)
	}
	j.Box = box.Box{U0: -far, V0: -far, U1: far, V1: far}
	j.TW, j.TH = 4096, 4096
	if l, e = plan.Of(j); len(l) != 64+16+4+13 || e != api.OK {
		t.Error(len(l), e)
	}
}

func TestP39_Has(t *testing.T) {
	l := []api.Tile{{I: 3}, {Level: 1}, {I: 5}, {Level: 1}}
	for k := -2; k < 4; k++ {
		for i := -1; i < 7; i++ {
			want := k == 0 && (i == 3 || i == 5) || k == 1 && i == 0
			if tile := (api.Tile{Level: k, I: i}); plan.Has(l, tile) != want || plan.Has(nil, tile) {
				t.Errorf("Has(%v): %v", tile, !want)
			}
		}
	}
}

// source is one that keeps which pixels are read.
type source struct {
	w, h, levels int
	read         [][3]int
}

func (s *source) Levels() int { return s.levels }

func (s *source) Channels() int { return 1 }

func (s *source) Size(k int) (int, int) { return mip.Size(s.w, s.h, k) }

func (s *source) Read(k, x, y int) []byte {
	s.read = append(s.read, [3]int{k, x, y})
	return []byte{0}
}

func TestP39_3_Planned(t *testing.T) {
	x := uint64(2)
	for _, j := range jobs() {
		l, e := plan.Of(j)
		if e != api.OK {
			t.Fatal(j, e)
		}
		src := &source{w: j.W, h: j.H, levels: j.Levels}
		s, e := sample.New(src, j.Kernel, 2, j.Border)
		if e != api.OK {
			t.Fatal(j, e)
		}
		b := j.Box
		for _, u := range []int64{b.U0, b.U1, b.U0 + next(&x, b.U1-b.U0+1)} {
			for _, v := range []int64{b.V0, b.V1, b.V0 + next(&x, b.V1-b.V0+1)} {
				for k := range j.Levels {
					if _, e := s.At(k, u, v); e != api.OK {
						t.Fatal(j, k, u, v, e)
					}
				}
			}
		}
		for _, p := range src.read {
			w, h := mip.Size(j.W, j.H, p[0])
			i, is := grid.Of(grid.Grid{W: w, H: h, TW: j.TW, TH: j.TH}, p[1], p[2])
			if tile := (api.Tile{Level: p[0], I: i}); !is || !plan.Has(l, tile) {
				t.Fatalf("%v: pixel %v is read, of %v", j, p, tile)
			}
		}
	}
}

// P1 and P2: all end at all edges, wrong ones too, and tell the same again, whatever was called between.
func TestP1_P2_TheSameAgain(t *testing.T) {
	l := jobs()
	told := func(i int) string {
		j := l[i*13%len(l)]
		j.Levels = i%5 - 1
		if i%7 == 0 {
			j.Box.U0, j.TW = j.Box.U0+int64(i%3)*one, i%5
		}
		tiles, e := plan.Of(j)
		some, code := plan.Level(j, i%6-1)
		return fmt.Sprint(plan.Check(j), tiles, e, some, code, plan.Has(tiles, api.Tile{I: i % 4}))
	}
	var first []string
	for i := range 5000 {
		first = append(first, told(i))
	}
	for i := len(first) - 1; i >= 0; i-- {
		if again := told(i); again != first[i] {
			t.Fatalf("%d: %s, then %s", i, first[i], again)
		}
	}
}
