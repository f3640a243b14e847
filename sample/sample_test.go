package sample_test

import (
	"bytes"
	"fmt"
	"math"
	"slices"
	"testing"

	"anamorph/affine"
	"anamorph/api"
	"anamorph/cubic"
	"anamorph/level"
	"anamorph/linear"
	"anamorph/mesh"
	"anamorph/mip"
	"anamorph/near"
	"anamorph/sample"
	"anamorph/shear"
	"anamorph/xform"
)

const (
	one = 65536
	far = 1 << 46
)

var color = [4]byte{201, 17, 0, 255}

// borders are of each mode.
func borders() []api.Border {
	return []api.Border{{Mode: api.Const, Color: color}, {Mode: api.Clamp, Color: color}, {Mode: api.Wrap}, {Mode: api.Mirror, Color: color}}
}

// kernels are the four, with numbers of samples; where they don't matter, any.
var kernels = [][2]int{{api.Near, 0}, {api.Near, 9}, {api.Linear, -1}, {api.Linear, 2}, {api.Cubic, math.MaxInt}, {api.Cubic, 1}, {api.Super, 1}, {api.Super, 2}, {api.Super, 3}, {api.Super, 8}}

// nothing are numbers of no kernel.
var nothing = []int{-1, 4, 5, 1 << 32, -1 << 32, math.MinInt, math.MaxInt}

// some is an image whose bytes differ, and go up and down.
func some(w, h, c int) api.Image {
	m := api.Image{W: w, H: h, C: c}
	for i := range w * h * c {
		m.Pix = append(m.Pix, byte(i*i*7+i*61+3))
	}
	return m
}

// pyramids are such of images of one pixel, one row, one column, and others; one is none, but images all the same.
func pyramids(t *testing.T) [][]api.Image {
	t.Helper()
	var l [][]api.Image
	for _, s := range [][3]int{{1, 1, 1}, {7, 1, 3}, {1, 5, 4}, {9, 6, 1}, {12, 10, 4}} {
		p, e := mip.Pyramid(some(s[0], s[1], s[2]), 15)
		if e != api.OK {
			t.Fatal(e)
		}
		l = append(l, p)
	}
	return append(l, []api.Image{some(3, 2, 3)}, []api.Image{some(2, 2, 1), some(5, 3, 1), some(1, 7, 1)})
}

// maps are of some kinds, for images of some sizes.
func maps(t *testing.T) []*xform.Map {
	t.Helper()
	var l []*xform.Map
	for _, s := range [][2]int{{1, 1}, {6, 1}, {1, 4}, {5, 7}} {
		for _, x := range []api.Xform{
			xform.Whole(s[0], s[1]),
			{Kind: api.Affine, C: affine.Move(-3*one, one/2)},
			{Kind: api.Affine, C: []int64{one / 2, 0, 5, 0, one / 4, 7}},
			{Kind: api.Affine, C: []int64{one / 3, one / 5, 0, -one / 7, one / 9, 99}},
			{Kind: api.Affine, C: []int64{3 * one, 0, 0, 0, -2 * one, 0}},
			{Kind: api.Homog, C: []int64{one / 3, 99, -one * 9, -7, one / 5, 5 * one, -1033, 544, one}},
			{Kind: api.Lens, C: []int64{3 * one, 2 * one, 6, 60000, 44444, -3000, 7000}},
			{Kind: api.Mesh, C: mesh.Plain(4, 4, 2, 2)},
			{Kind: api.Shear, C: shear.Quarter(1)},
			{Kind: api.Turn, C: []int64{3, 4, 9}},
			{Kind: api.Affine, C: []int64{1, 0, 1 << 31, 0, -1, 1 << 31}},
		} {
			m, e := xform.New(x, s[0], s[1])
			if e != api.OK {
				t.Fatal(x, e)
			}
			l = append(l, m)
		}
	}
	return l
}

// read is what was read.
type read struct{ k, x, y int }

// fake is a source of which all is told by hand; it keeps what is read.
type fake struct {
	sizes    [][2]int
	levels   int
	channels int
	long     int
	l        []read
}

func (f *fake) Levels() int { return f.levels }

func (f *fake) Channels() int { return f.channels }

func (f *fake) Size(k int) (int, int) {
	if k < 0 || k >= len(f.sizes) {
		return 0, 0
	}
	return f.sizes[k][0], f.sizes[k][1]
}

func (f *fake) Read(k, x, y int) []byte {
	f.l = append(f.l, read{k, x, y})
	pixel := make([]byte, f.long)
	for i := range pixel {
		pixel[i] = byte(k*101 + x*37 + y*53 + i*71)
	}
	return pixel
}

// by is what a kernel's own layer tells.
func by(kernel int, m api.Image, b api.Border, u, v int64) ([]byte, api.Errno) {
	switch kernel {
	case api.Near:
		return near.At(m, b, u, v)
	case api.Cubic:
		return cubic.At(m, b, u, v)
	}
	return linear.At(m, b, u, v)
}

// made is a sampler.
func made(t *testing.T, l []api.Image, kernel [2]int, b api.Border) *sample.Sampler {
	t.Helper()
	src, e := sample.Of(l)
	if e != api.OK {
		t.Fatal(e)
	}
	s, e := sample.New(src, kernel[0], kernel[1], b)
	if s == nil || e != api.OK {
		t.Fatalf("kernel %v, border %v: %v", kernel, b, e)
	}
	return s
}

// places are such within, beside and beyond images.
func places() []int64 {
	var l []int64
	for n := int64(-9); n <= 20; n += 3 {
		for _, f := range []int64{0, 1, 20000, 32767, 32768, 49153} {
			l = append(l, n*one+f)
		}
	}
	return append(l, far, -far, far-1, 1-far, far-32768, 40000-far, 1<<31, -1<<31)
}

// beyond are numbers that lie further from 0 than a place may.
var beyond = []int64{far + 1, -far - 1, 1 << 62, math.MinInt64, math.MinInt64 + 1, math.MaxInt64}

func TestP33_1_Of(t *testing.T) {
	ends := []int{0, 1, 2, 5, 6, 9, 11, -1, -2, math.MinInt, math.MaxInt}
	for _, l := range pyramids(t) {
		s, e := sample.Of(l)
		if s == nil || e != api.OK {
			t.Fatalf("%d images: %v", len(l), e)
		}
		if s.Levels() != len(l) || s.Channels() != l[0].C {
			t.Errorf("%d images, %d channels", s.Levels(), s.Channels())
		}
		for _, k := range append(ends, len(l)-1, len(l), len(l)+1) {
			w, h, wide, high := 0, 0, 0, 0
			if 0 <= k && k < len(l) {
				wide, high = l[k].W, l[k].H
			}
			if w, h = s.Size(k); w != wide || h != high {
				t.Errorf("Size(%d): %d %d, not %d %d", k, w, h, wide, high)
			}
			for _, x := range append(ends, wide-1, wide) {
				for _, y := range append(ends, high-1, high) {
					var want []byte
					if 0 <= x && x < wide && 0 <= y && y < high {
						want = l[k].Pix[(y*wide+x)*l[k].C:][:l[k].C]
					}
					got := s.Read(k, x, y)
					if !bytes.Equal(got, want) {
						t.Fatalf("Read(%d, %d, %d) of %d by %d: %v, not %v", k, x, y, wide, high, got, want)
					}
					clear(got[:cap(got)])
					if again := s.Read(k, x, y); !bytes.Equal(again, want) {
						t.Fatalf("Read(%d, %d, %d), later: %v, not %v", k, x, y, again, want)
					}
				}
			}
		}
	}
}

func TestP33_1_OwnBytes(t *testing.T) {
	l := []api.Image{some(3, 2, 3), some(2, 1, 3)}
	s, _ := sample.Of(l)
	again, _ := sample.Of(l)
	clear(l[0].Pix)
	clear(l[1].Pix)
	l[1] = some(9, 9, 1)
	for k, m := range []api.Image{some(3, 2, 3), some(2, 1, 3)} {
		for i := range m.W * m.H {
			if got := s.Read(k, i%m.W, i/m.W); !bytes.Equal(got, m.Pix[i*3:i*3+3]) {
				t.Errorf("image %d, pixel %d: %v", k, i, got)
			}
		}
	}
	if w, h := again.Size(1); w != 2 || h != 1 {
		t.Errorf("%d by %d", w, h)
	}
}

func TestP33_1_Wrong(t *testing.T) {
	right, other := some(2, 2, 1), some(2, 2, 3)
	short, none, large := api.Image{W: 1, H: 1, C: 1}, api.Image{}, api.Image{W: 40000, H: 1, C: 3}
	for _, c := range []struct {
		l    []api.Image
		want api.Errno
	}{
		{nil, api.ErrNone}, {[]api.Image{}, api.ErrNone},
		{[]api.Image{none}, api.ErrArg}, {[]api.Image{short}, api.ErrSize}, {[]api.Image{large}, api.ErrLimit},
		{[]api.Image{right, other}, api.ErrArg}, {[]api.Image{right, right, right, other}, api.ErrArg},
		{[]api.Image{right, short}, api.ErrSize}, {[]api.Image{right, right, large}, api.ErrLimit}, // of other channels, too
		{[]api.Image{right, other, short}, api.ErrArg}, {[]api.Image{right, short, other}, api.ErrSize}, {[]api.Image{short, other}, api.ErrSize}, {[]api.Image{right, large, none}, api.ErrLimit},
		{[]api.Image{other, some(1, 1, 4)}, api.ErrArg},
	} {
		if s, e := sample.Of(c.l); s != nil || e != c.want {
			t.Errorf("%v: %v, not %v", c.l, e, c.want)
		}
	}
}

func TestP33_2_Check(t *testing.T) {
	src, _ := sample.Of([]api.Image{some(1, 1, 1)})
	right := append(borders(), api.Border{Mode: -1}, api.Border{Mode: 4}, api.Border{Mode: math.MinInt, Color: color})
	for _, kernel := range append([]int{0, 1, 2, 3}, nothing...) {
		for _, n := range []int{math.MinInt, -8, -1, 0, 1, 2, 7, 8, 9, 1<<32 + 1, math.MaxInt} {
			for _, b := range right {
				want := api.OK
				if b.Mode < 0 || b.Mode > 3 {
					want = api.ErrArg
				}
				if kernel == api.Super && (n < 1 || n > 8) {
					want = api.ErrRange
				}
				if kernel < 0 || kernel > 3 {
					want = api.ErrArg
				}
				if e := sample.Check(kernel, n, b); e != want {
					t.Errorf("Check(%d, %d, %v): %v, not %v", kernel, n, b, e, want)
				}
				if s, e := sample.New(src, kernel, n, b); e != want || (s != nil) != (want == api.OK) {
					t.Errorf("New(%d, %d, %v): %v, not %v", kernel, n, b, e, want)
				}
				if s, e := sample.New(nil, kernel, n, b); s != nil || e != api.ErrArg {
					t.Errorf("New of none (%d, %d, %v): %v", kernel, n, b, e)
				}
			}
		}
	}
}

func TestP33_3_At(t *testing.T) {
	all := places()
	for _, l := range pyramids(t) {
		for _, b := range borders() {
			for _, kernel := range kernels {
				s := made(t, l, kernel, b)
				for k, m := range l {
					for i, u := range all {
						v := all[(i*29+k)%len(all)]
						want, _ := by(kernel[0], m, b, level.To(u, k), level.To(v, k))
						if got, e := s.At(k, u, v); !bytes.Equal(got, want) || e != api.OK {
							t.Fatalf("kernel %v, border %v, image %d of %d, at %d, %d: %v %v, not %v", kernel, b, k, len(l), u, v, got, e, want)
						} else {
							clear(got)
						}
					}
				}
			}
		}
	}
}

func TestP33_3_ByHand(t *testing.T) {
	l := []api.Image{{W: 4, H: 1, C: 1, Pix: []byte{10, 20, 30, 40}}, {W: 2, H: 1, C: 1, Pix: []byte{15, 35}}}
	for _, c := range []struct {
		kernel, mode, k int
		u               int64
		want            byte
	}{
		{api.Near, api.Clamp, 0, 32768, 20}, {api.Linear, api.Clamp, 0, 32768, 15}, {api.Super, api.Clamp, 0, 32768, 15}, {api.Cubic, api.Clamp, 0, 98304, 25},
		{api.Linear, api.Clamp, 1, 32768, 15}, {api.Linear, api.Clamp, 1, 98304, 25}, {api.Linear, api.Clamp, 1, 163840, 35}, {api.Near, api.Clamp, 1, 98303, 15}, {api.Near, api.Clamp, 1, 98304, 35},
		{api.Near, api.Const, 0, -65536, 7}, {api.Near, api.Wrap, 0, -65536, 40}, {api.Near, api.Mirror, 0, -131072, 20}, {api.Near, api.Wrap, 1, -98304, 35}, {api.Near, api.Mirror, 1, 294912, 35}, {api.Near, api.Mirror, 1, 360448, 15}, {api.Near, api.Const, 1, 360448, 7},
	} {
		s := made(t, l, [2]int{c.kernel, 2}, api.Border{Mode: c.mode, Color: [4]byte{7}})
		if got, e := s.At(c.k, c.u, 0); len(got) != 1 || got[0] != c.want || e != api.OK {
			t.Errorf("%v: %v %v", c, got, e)
		}
	}
}

func TestP33_3_Asked(t *testing.T) {
	all := places()
	for _, kernel := range kernels {
		for _, b := range borders() {
			for k := range 3 {
				for i, u := range all {
					v := all[(i*7+3)%len(all)]
					f := &fake{sizes: [][2]int{{5, 4}, {1, 9}, {6, 1}}, levels: 3, channels: 1, long: 1}
					s, _ := sample.New(f, kernel[0], kernel[1], b)
					if _, e := s.At(k, u, v); e != api.OK {
						t.Fatal(e)
					}
					want := map[read]int{}
					lo, hi := sample.Reach(kernel[0], level.To(u, k), level.To(u, k))
					top, low := sample.Reach(kernel[0], level.To(v, k), level.To(v, k))
					for y := top; y <= low; y++ {
						for x := lo; x <= hi; x++ {
							column, line := index(b.Mode, x, f.sizes[k][0]), index(b.Mode, y, f.sizes[k][1])
							if column >= 0 && line >= 0 {
								want[read{k, column, line}]++
							}
						}
					}
					for _, r := range f.l {
						want[r]--
					}
					for r, n := range want {
						if n != 0 {
							t.Fatalf("kernel %v, border %v, image %d, at %d, %d: %v is read %d times too few", kernel, b, k, u, v, r, n)
						}
					}
				}
			}
		}
	}
}

// index is which of n things stands at a place; -1: none.
func index(mode int, i int64, n int) int {
	in := 0 <= i && i < int64(n)
	switch mode {
	case api.Const:
		if !in {
			return -1
		}
	case api.Clamp:
		return int(min(max(i, 0), int64(n-1)))
	case api.Wrap:
		return int((i%int64(n) + int64(n)) % int64(n))
	case api.Mirror:
		k := int((i%int64(2*n) + int64(2*n)) % int64(2*n))
		return min(k, 2*n-1-k)
	}
	return int(i)
}

func TestP33_3_Wrong(t *testing.T) {
	for _, s := range []*sample.Sampler{nil, {}} {
		for _, k := range []int{0, -1, 5} {
			for _, u := range []int64{0, far + 1} {
				if got, e := s.At(k, u, u); len(got) != 0 || e != api.ErrArg {
					t.Errorf("of none: %v %v", got, e)
				}
			}
		}
		for _, m := range append(maps(t), nil) {
			for _, x := range []int{0, -1, 99} {
				if got, e := s.Pixel(m, x, 0); len(got) != 0 || e != api.ErrArg {
					t.Errorf("of none: %v %v", got, e)
				}
			}
		}
	}
	for _, l := range pyramids(t) {
		for _, kernel := range kernels {
			s := made(t, l, kernel, api.Border{Mode: api.Clamp})
			for _, k := range []int{-1, len(l), len(l) + 1, math.MinInt, math.MaxInt} {
				if got, e := s.At(k, 0, 0); len(got) != 0 || e != api.ErrRange {
					t.Errorf("image %d of %d: %v %v", k, len(l), got, e)
				}
			}
			for _, u := range beyond {
				for _, v := range append(beyond, 0, far, -far) {
					for k := range l {
						if got, e := s.At(k, u, v); len(got) != 0 || e != api.ErrRange {
							t.Errorf("%d, %d: %v %v", u, v, got, e)
						}
						if got, e := s.At(k, v, u); len(got) != 0 || e != api.ErrRange {
							t.Errorf("%d, %d: %v %v", v, u, got, e)
						}
					}
				}
			}
		}
	}
}

// A source may be of any kind: what it doesn't tell is 0.
func TestP33_3_OtherSources(t *testing.T) {
	unit, _ := xform.New(xform.Whole(3, 3), 3, 3)
	for _, kernel := range kernels {
		for _, levels := range []int{0, -1, math.MinInt} {
			s, _ := sample.New(&fake{levels: levels, channels: 1, long: 1}, kernel[0], kernel[1], api.Border{})
			if got, e := s.At(0, 0, 0); len(got) != 0 || e != api.ErrRange {
				t.Errorf("%d images: %v %v", levels, got, e)
			}
			if got, e := s.Pixel(unit, 1, 1); len(got) != 0 || e != api.ErrRange {
				t.Errorf("%d images: %v %v", levels, got, e)
			}
		}
		for _, channels := range []int{0, -1, math.MinInt} {
			s, _ := sample.New(&fake{sizes: [][2]int{{3, 3}}, levels: 1, channels: channels, long: 4}, kernel[0], kernel[1], api.Border{})
			if got, e := s.At(0, 0, 0); len(got) != 0 || e != api.OK {
				t.Errorf("%d channels: %v %v", channels, got, e)
			}
			if got, e := s.Pixel(unit, 1, 1); len(got) != 0 || e != api.OK {
				t.Errorf("%d channels: %v %v", channels, got, e)
			}
		}
		s, _ := sample.New(&fake{sizes: [][2]int{{3, 3}}, levels: 1, channels: 6, long: 2}, kernel[0], kernel[1], api.Border{Mode: api.Clamp})
		if got, e := s.At(0, 65536, 65536); !bytes.Equal(got, []byte{90, 161, 0, 0, 0, 0}) || e != api.OK {
			t.Errorf("kernel %v, few channels: %v %v", kernel, got, e)
		}
		s, _ = sample.New(&fake{sizes: [][2]int{{3, 3}}, levels: 1, channels: 6, long: 9}, kernel[0], kernel[1], api.Border{Color: color})
		if got, e := s.At(0, -9*one, 0); !bytes.Equal(got, []byte{201, 17, 0, 255, 0, 0}) || e != api.OK {
			t.Errorf("kernel %v, many channels beyond: %v %v", kernel, got, e)
		}
		f := &fake{sizes: make([][2]int, 20), levels: 20, channels: 1, long: 1} // more than a pyramid has
		f.sizes[18] = [2]int{1 << 40, 1 << 40}
		s, _ = sample.New(f, kernel[0], kernel[1], api.Border{Mode: api.Clamp})
		at := level.From(3*one, 15)
		if got, e := s.At(18, at, at); !bytes.Equal(got, []byte{(18*101 + 3*37 + 3*53) % 256}) || e != api.OK {
			t.Errorf("kernel %v, image 18: %v %v", kernel, got, e)
		}
	}
}

// mean is what a sampler tells of all places of a pixel, together, one by one.
func mean(s *sample.Sampler, m *xform.Map, k, n, x, y, c int) []byte {
	var l []byte
	for i := range c {
		sum := 0
		for q := range n * n {
			u, v, _ := m.At(int64(2*n*x+2*(q%n)+1-n), int64(2*n*y+2*(q/n)+1-n), int64(2*n))
			one, _ := s.At(k, u, v)
			sum += int(one[i])
		}
		whole, rest := sum/(n*n), sum%(n*n)
		if 2*rest >= n*n {
			whole++
		}
		l = append(l, byte(whole))
	}
	return l
}

func TestP33_4_Pixel(t *testing.T) {
	for i, m := range maps(t) {
		w, h := m.Size()
		for p, l := range pyramids(t) {
			b := borders()[(i+p)%4]
			for _, kernel := range kernels {
				s := made(t, l, kernel, b)
				for y := range h {
					for x := range w {
						k, _ := level.Of(m, x, y, len(l)-1)
						u, v, _ := m.At(int64(x), int64(y), 1)
						want, _ := s.At(k, u, v)
						if kernel[0] == api.Super {
							if kernel[1] == 8 && (x+y+p)%5 > 0 {
								continue
							}
							want = mean(s, m, k, kernel[1], x, y, l[0].C)
						}
						if got, e := s.Pixel(m, x, y); !bytes.Equal(got, want) || e != api.OK {
							t.Fatalf("map %d, pixel %d, %d, pyramid %d, kernel %v: %v %v, not %v", i, x, y, p, kernel, got, e, want)
						} else {
							clear(got)
						}
					}
				}
			}
		}
	}
}

func TestP33_4_ByHand(t *testing.T) {
	row := api.Image{W: 4, H: 1, C: 1, Pix: []byte{10, 20, 30, 41}}
	l, _ := mip.Pyramid(row, 2) // 10 20 30 41; 15 36; 26
	of := func(w int, c ...int64) *xform.Map {
		m, e := xform.New(api.Xform{Kind: api.Affine, C: c}, w, 1)
		if e != api.OK {
			t.Fatal(e)
		}
		return m
	}
	unit, half, twice, quarter := of(4, affine.Unit()...), of(2, one/2, 0, 0, 0, one, 0), of(8, 2*one, 0, 0, 0, one, 0), of(2, one/4, 0, 0, 0, one, 0)
	for _, c := range []struct {
		m         *xform.Map
		l         []api.Image
		kernel, n int
		want      []byte
	}{
		{unit, l, api.Near, 0, row.Pix}, {unit, l, api.Linear, 0, row.Pix}, {unit, l, api.Cubic, 0, row.Pix}, {unit, l, api.Super, 1, row.Pix},
		{unit, l, api.Super, 2, []byte{12, 21, 31, 40}}, // a quarter to the left and to the right: 10 13, 18 23, 28 33, 38 41
		{twice, l, api.Near, 0, []byte{10, 20, 20, 30, 30, 41, 41, 41}}, {twice, l, api.Linear, 0, []byte{10, 15, 20, 25, 30, 36, 41, 41}},
		{half, l[:1], api.Near, 0, []byte{10, 30}}, {half, l, api.Near, 0, []byte{15, 36}}, {half, l, api.Linear, 0, []byte{15, 31}}, // of the image that is half
		{quarter, l, api.Near, 0, []byte{26, 26}}, {quarter, l[:2], api.Near, 0, []byte{15, 36}}, {quarter, l[:1], api.Near, 0, []byte{10, 41}},
	} {
		s := made(t, c.l, [2]int{c.kernel, c.n}, api.Border{Mode: api.Clamp})
		var got []byte
		for x := range c.want {
			pixel, e := s.Pixel(c.m, x, 0)
			if len(pixel) != 1 || e != api.OK {
				t.Fatal(pixel, e)
			}
			got = append(got, pixel...)
		}
		if !slices.Equal(got, c.want) {
			t.Errorf("kernel %d, %d of %d images: %v, not %v", c.kernel, c.n, len(c.l), got, c.want)
		}
	}
}

// One sample a pixel is what Linear tells.
func TestP33_4_OneSample(t *testing.T) {
	for _, m := range maps(t) {
		w, h := m.Size()
		for _, l := range pyramids(t) {
			for _, b := range borders() {
				once, line := made(t, l, [2]int{api.Super, 1}, b), made(t, l, [2]int{api.Linear, 1}, b)
				for y := range h {
					for x := range w {
						a, e := once.Pixel(m, x, y)
						z, code := line.Pixel(m, x, y)
						if !bytes.Equal(a, z) || e != api.OK || code != api.OK {
							t.Fatalf("pixel %d, %d: %v %v, and %v %v", x, y, a, e, z, code)
						}
					}
				}
			}
		}
	}
}

func TestP33_4_Wrong(t *testing.T) {
	for _, l := range pyramids(t) {
		for _, kernel := range kernels {
			s := made(t, l, kernel, api.Border{Mode: api.Wrap})
			for _, x := range []int{0, -1, 1 << 40, math.MinInt} {
				if got, e := s.Pixel(nil, x, x); len(got) != 0 || e != api.ErrArg {
					t.Errorf("no map: %v %v", got, e)
				}
			}
			for _, m := range maps(t) {
				w, h := m.Size()
				for _, p := range [][2]int{{-1, 0}, {0, -1}, {w, 0}, {0, h}, {w, h}, {math.MinInt, 0}, {0, math.MaxInt}, {1 << 32, 1 << 32}} {
					if got, e := s.Pixel(m, p[0], p[1]); len(got) != 0 || e != api.ErrRange {
						t.Errorf("pixel %v of %d by %d: %v %v", p, w, h, got, e)
					}
				}
			}
		}
	}
}

func TestP33_5_Reach(t *testing.T) {
	ends := append(places(), beyond...)
	for _, lo := range ends {
		for _, hi := range ends {
			a, b := near.Reach(lo, hi)
			c, d := linear.Reach(lo, hi)
			e, f := cubic.Reach(lo, hi)
			for kernel, want := range [][2]int64{api.Near: {a, b}, api.Linear: {c, d}, api.Cubic: {e, f}, api.Super: {c, d}} {
				if x, y := sample.Reach(kernel, lo, hi); x != want[0] || y != want[1] {
					t.Fatalf("Reach(%d, %d, %d): %d %d, not %v", kernel, lo, hi, x, y, want)
				}
			}
			for _, kernel := range nothing {
				if x, y := sample.Reach(kernel, lo, hi); x != 0 || y != 0 {
					t.Fatalf("Reach(%d, %d, %d): %d %d", kernel, lo, hi, x, y)
				}
			}
		}
	}
	for kernel, want := range [][2]int64{{-1, 1}, {-2, 1}, {-3, 2}, {-2, 1}} {
		if lo, hi := sample.Reach(kernel, -70000, 40000); lo != want[0] || hi != want[1] {
			t.Errorf("kernel %d: %d %d, not %v", kernel, lo, hi, want)
		}
	}
}

func TestP33_5_Names(t *testing.T) {
	for kernel, name := range []string{"near", "linear", "cubic", "super"} {
		if got := sample.Name(kernel); got != name {
			t.Errorf("Name(%d): %q", kernel, got)
		}
		if got, is := sample.Named(name); got != kernel || !is {
			t.Errorf("Named(%q): %d %v", name, got, is)
		}
	}
	for _, kernel := range nothing {
		if got := sample.Name(kernel); got != "" {
			t.Errorf("Name(%d): %q", kernel, got)
		}
	}
	for _, name := range []string{"", " ", "Near", "near ", "nea", "linearly", "cubic\x00", "supe", "affine", "0", "\xff"} {
		if got, is := sample.Named(name); got != 0 || is {
			t.Errorf("Named(%q): %d %v", name, got, is)
		}
	}
	if api.Cubic != 2 || sample.Name(api.Cubic) != "cubic" {
		t.Error("the document's")
	}
}

// P1 and P2: all end at all edges, wrong ones too, and tell the same again, whatever was called between.
func TestP1_P2_TheSameAgain(t *testing.T) {
	var samplers []*sample.Sampler
	for i, l := range pyramids(t) {
		for k, kernel := range kernels[:9] {
			samplers = append(samplers, made(t, l, kernel, borders()[(i+k)%4]))
		}
	}
	samplers = append(samplers, nil, &sample.Sampler{})
	lists := append(pyramids(t), nil, []api.Image{{}}, []api.Image{some(1, 1, 1), some(1, 1, 3)})
	sights, all := append(maps(t), nil), append(places(), beyond...)
	told := func(i int) string {
		s, m := samplers[i%len(samplers)], sights[i*7%len(sights)]
		u, v := all[i*11%len(all)], all[i*5%len(all)]
		at, e := s.At(i%5-1, u, v)
		pixel, code := s.Pixel(m, i%7-1, i/7%5-1)
		src, none := sample.Of(lists[i%len(lists)])
		var bytes []byte
		if src != nil {
			bytes = src.Read(i%3-1, i%4, i%5)
		}
		lo, hi := sample.Reach(i%7-1, min(u, v), max(u, v))
		return fmt.Sprint(at, e, pixel, code, none, bytes, lo, hi, sample.Check(i%6-1, i%11-1, api.Border{Mode: i%5 - 1}), sample.Name(i%6-1))
	}
	var first []string
	for i := range 6000 {
		first = append(first, told(i))
	}
	for i := len(first) - 1; i >= 0; i-- {
		if again := told(i); again != first[i] {
			t.Fatalf("%d: %s, then %s", i, first[i], again)
		}
	}
}
