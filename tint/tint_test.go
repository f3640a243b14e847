package tint_test

import (
	"fmt"
	"math"
	"slices"
	"testing"

	"anamorph/api"
	"anamorph/img"
	"anamorph/tint"
)

// shapes are the sizes of small images: one pixel, one row, one column, and others.
var shapes = [][2]int{{1, 1}, {5, 1}, {1, 4}, {2, 2}, {3, 5}}

// some is an image whose bytes all tell their place.
func some(w, h, c int) api.Image {
	m := api.Image{W: w, H: h, C: c}
	for i := range w * h * c {
		m.Pix = append(m.Pix, byte(i*67+29))
	}
	return m
}

// all are right images of each number of channels.
func all() []api.Image {
	var l []api.Image
	for _, s := range shapes {
		for _, c := range []int{1, 3, 4} {
			l = append(l, some(s[0], s[1], c))
		}
	}
	return append(l, api.Image{W: 3, H: 1, C: 4, Pix: []byte{0, 0, 0, 0, 255, 255, 255, 255, 255, 0, 255, 0}}, api.Image{W: 3, H: 1, C: 1, Pix: []byte{0, 128, 255}})
}

// bad is an image that isn't right, and its code.
type bad struct {
	m    api.Image
	want api.Errno
}

func wrong() []bad {
	return []bad{
		{api.Image{}, api.ErrArg}, {api.Image{W: 1, H: 1, C: 2, Pix: []byte{1, 2}}, api.ErrArg}, {api.Image{W: 1, H: 1, C: -1, Pix: []byte{1}}, api.ErrArg},
		{api.Image{W: 40000, H: 0, C: 1}, api.ErrLimit}, {api.Image{W: 2049, H: 2048, C: 4}, api.ErrLimit},
		{api.Image{W: 1, H: 1, C: 1}, api.ErrSize}, {api.Image{W: 0, H: 1, C: 1}, api.ErrSize}, {api.Image{W: -1, H: -1, C: 1, Pix: []byte{1}}, api.ErrSize},
		{api.Image{W: 1, H: 1, C: 1, Pix: []byte{1, 2}}, api.ErrSize}, {api.Image{W: 2, H: 1, C: 3, Pix: make([]byte, 5)}, api.ErrSize},
	}
}

// pixels are an image's pixels, one by one.
func pixels(m api.Image) [][]byte { return slices.Collect(slices.Chunk(m.Pix, m.C)) }

// holds checks an image that was made of m: each pixel is what want makes of m's.
func holds(t *testing.T, what string, m, got api.Image, e api.Errno, c int, want func(p []byte) []byte) {
	t.Helper()
	n := api.Image{W: m.W, H: m.H, C: c}
	for _, p := range pixels(m) {
		n.Pix = append(n.Pix, want(p)...)
	}
	if e != api.OK || !img.Same(got, n) {
		t.Errorf("%s of %v: %v %v, not %v", what, m, got, e, n)
	}
}

// refused checks that there is a code and nothing else.
func refused(t *testing.T, what string, got api.Image, e, want api.Errno) {
	t.Helper()
	if e != want || got.W != 0 || got.H != 0 || got.C != 0 || len(got.Pix) != 0 {
		t.Errorf("%s: %v %v, not %v", what, got, e, want)
	}
}

// gray is a pixel as one number, reckoned apart.
func gray(p []byte) byte {
	return byte((77*int(p[0]) + 150*int(p[1]) + 29*int(p[2]) + 128) / 256)
}

func TestP11_1_Gray(t *testing.T) {
	for _, c := range []struct {
		p    []byte
		want byte
	}{
		{nil, 0}, {[]byte{}, 0}, {[]byte{255}, 77}, {[]byte{1}, 0}, {[]byte{2}, 1}, {[]byte{0, 255}, 149}, {[]byte{0, 0, 255}, 29},
		{[]byte{255, 0, 0}, 77}, {[]byte{255, 255}, 226}, {[]byte{255, 255, 255}, 255}, {[]byte{255, 255, 255, 255}, 255}, {[]byte{0, 0, 0, 255}, 0},
		{[]byte{0, 0, 4, 9, 9}, 0}, {[]byte{0, 0, 5}, 1}, {[]byte{1, 2, 3}, 2}, {[]byte{0, 1, 0}, 1}, {[]byte{128, 64, 32, 16}, 80},
	} {
		if v := tint.Gray(c.p); v != c.want {
			t.Errorf("Gray(%v): %d, not %d", c.p, v, c.want)
		}
	}
	for a := 0; a < 256; a += 5 {
		for b := 0; b < 256; b += 3 {
			for c := 0; c < 256; c += 5 {
				p := []byte{byte(a), byte(b), byte(c)}
				if v := tint.Gray(p); v != gray(p) {
					t.Fatalf("Gray(%v): %d, not %d", p, v, gray(p))
				}
			}
		}
	}
}

func TestP11_1_To(t *testing.T) {
	for _, m := range all() {
		one, e := tint.To(m, 1)
		holds(t, "To 1", m, one, e, 1, func(p []byte) []byte {
			if len(p) == 1 {
				return p
			}
			return []byte{gray(p)}
		})
		three, e := tint.To(m, 3)
		holds(t, "To 3", m, three, e, 3, func(p []byte) []byte {
			if len(p) == 1 {
				return []byte{p[0], p[0], p[0]}
			}
			return p[:3]
		})
		four, e := tint.To(m, 4)
		holds(t, "To 4", m, four, e, 4, func(p []byte) []byte {
			switch len(p) {
			case 1:
				return []byte{p[0], p[0], p[0], 255}
			case 3:
				return []byte{p[0], p[1], p[2], 255}
			}
			return p
		})
	}
}

func TestP11_1_WrongOnes(t *testing.T) {
	counts := []int{math.MinInt, -1, 0, 2, 5, math.MaxInt}
	for _, c := range counts {
		for _, m := range all() {
			n, e := tint.To(m, c)
			refused(t, fmt.Sprintf("To %d", c), n, e, api.ErrArg)
		}
	}
	for _, w := range wrong() {
		for _, c := range append(counts, 1, 3, 4) {
			n, e := tint.To(w.m, c)
			refused(t, fmt.Sprintf("To %d of %v", c, w.m), n, e, w.want)
		}
	}
}

func TestP11_2_InvertAndSwap(t *testing.T) {
	for _, m := range all() {
		n, e := tint.Invert(m)
		holds(t, "Invert", m, n, e, m.C, func(p []byte) []byte {
			q := slices.Clone(p)
			for k := range p {
				if k < 3 {
					q[k] = 255 - p[k]
				}
			}
			return q
		})
		n, e = tint.Swap(m)
		holds(t, "Swap", m, n, e, m.C, func(p []byte) []byte {
			switch len(p) {
			case 3:
				return []byte{p[2], p[1], p[0]}
			case 4:
				return []byte{p[2], p[1], p[0], p[3]}
			}
			return p
		})
	}
	for _, w := range wrong() {
		n, e := tint.Invert(w.m)
		refused(t, "Invert", n, e, w.want)
		n, e = tint.Swap(w.m)
		refused(t, "Swap", n, e, w.want)
	}
}

func TestP11_2_Channel(t *testing.T) {
	for _, m := range all() {
		for k := range m.C {
			n, e := tint.Channel(m, k)
			holds(t, fmt.Sprintf("Channel %d", k), m, n, e, 1, func(p []byte) []byte { return p[k : k+1] })
		}
		for _, k := range []int{math.MinInt, -1, m.C, m.C + 1, 4, math.MaxInt} {
			n, e := tint.Channel(m, k)
			refused(t, fmt.Sprintf("Channel %d of %d", k, m.C), n, e, api.ErrRange)
		}
	}
	for _, w := range wrong() {
		for _, k := range []int{math.MinInt, -1, 0, 1, 3, 4} {
			n, e := tint.Channel(w.m, k)
			refused(t, "Channel", n, e, w.want)
		}
	}
}

func TestP11_2_Join(t *testing.T) {
	for _, s := range shapes {
		var l []api.Image
		for n := range 5 {
			if n == 1 || n == 3 || n == 4 {
				want := api.Image{W: s[0], H: s[1], C: n}
				for i := range s[0] * s[1] {
					for k := range n {
						want.Pix = append(want.Pix, l[k].Pix[i])
					}
				}
				if m, e := tint.Join(l); e != api.OK || !img.Same(m, want) {
					t.Errorf("Join of %d: %v %v, not %v", n, m, e, want)
				}
			} else {
				m, e := tint.Join(l)
				refused(t, fmt.Sprintf("Join of %d", n), m, e, api.ErrArg)
			}
			m := some(s[0], s[1], 1)
			for i := range m.Pix {
				m.Pix[i] += byte(n * 50)
			}
			l = append(l, m)
		}
		m, e := tint.Join(l)
		refused(t, "Join of 5", m, e, api.ErrArg)
	}
}

func TestP11_2_JoinOfWrongOnes(t *testing.T) {
	g, big, color := some(2, 3, 1), some(3, 2, 1), some(2, 3, 3)
	broken, huge := api.Image{W: 2, H: 3, C: 1}, api.Image{W: 40000, H: 1, C: 1}
	for _, c := range []struct {
		l    []api.Image
		want api.Errno
	}{
		{nil, api.ErrArg}, {[]api.Image{}, api.ErrArg}, {[]api.Image{g, g}, api.ErrArg}, {[]api.Image{huge, broken}, api.ErrArg}, {[]api.Image{huge, g, g, g, g}, api.ErrArg},
		{[]api.Image{color}, api.ErrArg}, {[]api.Image{g, g, color}, api.ErrArg}, {[]api.Image{g, g, g, some(2, 3, 4)}, api.ErrArg}, {[]api.Image{g, some(9, 9, 3), g}, api.ErrArg},
		{[]api.Image{broken}, api.ErrSize}, {[]api.Image{g, broken, g}, api.ErrSize}, {[]api.Image{huge}, api.ErrLimit}, {[]api.Image{g, g, g, huge}, api.ErrLimit},
		{[]api.Image{g, big, g}, api.ErrSize}, {[]api.Image{g, g, some(2, 2, 1)}, api.ErrSize}, {[]api.Image{g, some(1, 3, 1), g, g}, api.ErrSize}, {[]api.Image{some(1, 3, 1), g, g, g}, api.ErrSize},
		{[]api.Image{g, huge, broken}, api.ErrLimit}, {[]api.Image{g, broken, huge}, api.ErrSize}, {[]api.Image{broken, color, huge}, api.ErrSize},
		// image by image: what is wrong with an earlier one comes first
		{[]api.Image{color, huge, g}, api.ErrArg}, {[]api.Image{g, color, huge, broken}, api.ErrArg}, {[]api.Image{g, big, color}, api.ErrSize}, {[]api.Image{g, big, huge}, api.ErrSize}, {[]api.Image{g, color, big}, api.ErrArg},
	} {
		m, e := tint.Join(c.l)
		refused(t, fmt.Sprintf("Join of %d", len(c.l)), m, e, c.want)
	}
	for _, w := range wrong() {
		m, e := tint.Join([]api.Image{w.m})
		refused(t, "Join of a wrong one", m, e, w.want)
	}
}

func TestP11_3_ThereAndBack(t *testing.T) {
	for v := range 256 {
		m := api.Image{W: 1, H: 1, C: 1, Pix: []byte{byte(v)}}
		for _, c := range []int{1, 3, 4} {
			n, _ := tint.To(m, c)
			if back, e := tint.To(n, 1); e != api.OK || !img.Same(back, m) {
				t.Errorf("%d to %d channels and back: %v %v", v, c, back, e)
			}
		}
	}
	for _, m := range all() {
		once, _ := tint.Invert(m)
		if twice, e := tint.Invert(once); e != api.OK || !img.Same(twice, m) {
			t.Errorf("Invert of %v twice: %v %v", m, twice, e)
		}
		once, _ = tint.Swap(m)
		if twice, e := tint.Swap(once); e != api.OK || !img.Same(twice, m) {
			t.Errorf("Swap of %v twice: %v %v", m, twice, e)
		}
		var l []api.Image
		for k := range m.C {
			c, _ := tint.Channel(m, k)
			l = append(l, c)
		}
		if joined, e := tint.Join(l); e != api.OK || !img.Same(joined, m) {
			t.Errorf("Join of %v's channels: %v %v", m, joined, e)
		}
	}
}

// What is told is new memory, and what is handed in stays as it was.
func TestP11_2_Memory(t *testing.T) {
	for _, m := range all() {
		kept := slices.Clone(m.Pix)
		a, _ := tint.To(m, m.C)
		b, _ := tint.Invert(m)
		c, _ := tint.Swap(m)
		d, _ := tint.Channel(m, 0)
		if !slices.Equal(m.Pix, kept) {
			t.Fatalf("%v was changed", m)
		}
		e, _ := tint.Join([]api.Image{d})
		for _, n := range []api.Image{a, b, c, e} {
			for i := range n.Pix {
				n.Pix[i] ^= 85
			}
		}
		first, _ := tint.Channel(m, 0)
		if !slices.Equal(m.Pix, kept) || !img.Same(d, first) {
			t.Fatalf("%v shares memory", m)
		}
		clear(d.Pix)
		if !slices.Equal(m.Pix, kept) {
			t.Fatalf("%v shares memory with its channel", m)
		}
	}
}

// every is what all calls tell of two images and a number.
func every(m, n api.Image, k int) string {
	a, e1 := tint.To(m, k)
	b, e2 := tint.Invert(m)
	c, e3 := tint.Swap(m)
	d, e4 := tint.Channel(m, k)
	e, e5 := tint.Join([]api.Image{m, n, m})
	return fmt.Sprint(a, e1, b, e2, c, e3, d, e4, e, e5, tint.Gray(m.Pix))
}

// P1 and P2: all end at all edges, wrong images too, and tell the same again, whatever was called between.
func TestP1_P2_TheSameAgain(t *testing.T) {
	l := all()
	for _, c := range wrong() {
		l = append(l, c.m)
	}
	numbers := []int{0, 1, 2, 3, 4, 5, -1, math.MinInt, math.MaxInt}
	var first []string
	told := func(i int) string { return every(l[i%len(l)], l[i/3%len(l)], numbers[i%len(numbers)]) }
	for i := range 2000 {
		first = append(first, told(i))
	}
	for i := len(first) - 1; i >= 0; i-- {
		if again := told(i); again != first[i] {
			t.Fatalf("%d: %s, then %s", i, first[i], again)
		}
	}
}
