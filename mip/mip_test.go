package mip_test

import (
	"bytes"
	"fmt"
	"math"
	"slices"
	"testing"

	"anamorph/api"
	"anamorph/mip"
)

// some is an image whose bytes differ, and go up and down.
func some(w, h, c int) api.Image {
	m := api.Image{W: w, H: h, C: c, Pix: make([]byte, w*h*c)}
	for i := range m.Pix {
		m.Pix[i] = byte(i*i*7 + i*61 + i>>9*31 + 3)
	}
	return m
}

// sizes are those of one pixel, one row, one column, and of even and odd ones.
var sizes = [][2]int{{1, 1}, {2, 1}, {1, 2}, {2, 2}, {3, 1}, {1, 3}, {3, 3}, {4, 3}, {3, 4}, {5, 3}, {7, 1}, {1, 9}, {8, 8}, {9, 7}, {17, 33}, {64, 1}, {65, 2}, {100, 63}}

// all are images of these sizes.
func all() []api.Image {
	var l []api.Image
	for _, s := range sizes {
		for _, c := range []int{1, 3, 4} {
			l = append(l, some(s[0], s[1], c))
		}
	}
	return l
}

// long are as wide, as high, and as great as may be, and one is of fewer columns by one.
func long() []api.Image {
	return []api.Image{some(32768, 1, 1), some(1, 32768, 3), some(32768, 128, 1), some(2048, 2048, 1), some(32767, 3, 4), some(3, 16385, 1)}
}

// bad is an image that isn't right, and its code.
type bad struct {
	m    api.Image
	want api.Errno
}

func wrong() []bad {
	return []bad{
		{api.Image{}, api.ErrArg}, {api.Image{W: 1, H: 1, C: 2, Pix: []byte{1, 2}}, api.ErrArg},
		{api.Image{W: 40000, H: 0, C: 1}, api.ErrLimit}, {api.Image{W: 2049, H: 2048, C: 1}, api.ErrLimit},
		{api.Image{W: 1, H: 1, C: 1}, api.ErrSize}, {api.Image{W: 0, H: 1, C: 1}, api.ErrSize},
		{api.Image{W: 1, H: 1, C: 1, Pix: []byte{1, 2}}, api.ErrSize}, {api.Image{W: -1, H: -1, C: 1, Pix: []byte{1}}, api.ErrSize},
	}
}

// same tells whether two images are alike.
func same(a, b api.Image) bool {
	return a.W == b.W && a.H == b.H && a.C == b.C && bytes.Equal(a.Pix, b.Pix)
}

// of is the two columns, or rows, of n of which one of half an image is made; the last one may be both.
func of(i, n int) [2]int {
	if 2*i+1 < n {
		return [2]int{2 * i, 2*i + 1}
	}
	return [2]int{n - 1, n - 1}
}

// half is half of an image, pixel by pixel.
func half(m api.Image) api.Image {
	s := api.Image{W: m.W/2 + m.W%2, H: m.H/2 + m.H%2, C: m.C}
	for y := range s.H {
		for x := range s.W {
			for k := range s.C {
				sum := 2
				for _, j := range of(y, m.H) {
					for _, i := range of(x, m.W) {
						sum += int(m.Pix[(j*m.W+i)*m.C+k])
					}
				}
				s.Pix = append(s.Pix, byte(sum/4))
			}
		}
	}
	return s
}

// pyramid is an image, and halves.
func pyramid(m api.Image, n int) []api.Image {
	l := []api.Image{m}
	for range n {
		last := l[len(l)-1]
		if last.W == 1 && last.H == 1 {
			break
		}
		l = append(l, half(last))
	}
	return l
}

func TestP31_1_Half(t *testing.T) {
	for _, m := range append(all(), long()...) {
		before := bytes.Clone(m.Pix)
		got, e := mip.Half(m)
		if want := half(m); !same(got, want) || e != api.OK {
			t.Fatalf("%d by %d, of %d channels: %d by %d %v, not %v", m.W, m.H, m.C, got.W, got.H, e, want.Pix[:min(9, len(want.Pix))])
		}
		if clear(got.Pix); !bytes.Equal(m.Pix, before) {
			t.Fatalf("%d by %d is changed", m.W, m.H)
		}
	}
}

func TestP31_1_HalfByHand(t *testing.T) {
	for _, c := range []struct{ m, want api.Image }{
		{api.Image{W: 2, H: 1, C: 1, Pix: []byte{1, 2}}, api.Image{W: 1, H: 1, C: 1, Pix: []byte{2}}},
		{api.Image{W: 1, H: 2, C: 1, Pix: []byte{4, 1}}, api.Image{W: 1, H: 1, C: 1, Pix: []byte{3}}},
		{api.Image{W: 2, H: 2, C: 1, Pix: []byte{0, 0, 0, 1}}, api.Image{W: 1, H: 1, C: 1, Pix: []byte{0}}},
		{api.Image{W: 2, H: 2, C: 1, Pix: []byte{0, 1, 0, 1}}, api.Image{W: 1, H: 1, C: 1, Pix: []byte{1}}},
		{api.Image{W: 2, H: 2, C: 1, Pix: []byte{255, 255, 255, 254}}, api.Image{W: 1, H: 1, C: 1, Pix: []byte{255}}},
		{api.Image{W: 3, H: 1, C: 1, Pix: []byte{10, 20, 99}}, api.Image{W: 2, H: 1, C: 1, Pix: []byte{15, 99}}},
		{api.Image{W: 1, H: 3, C: 3, Pix: []byte{1, 2, 3, 5, 6, 7, 100, 101, 102}}, api.Image{W: 1, H: 2, C: 3, Pix: []byte{3, 4, 5, 100, 101, 102}}},
		{api.Image{W: 1, H: 1, C: 4, Pix: []byte{1, 2, 3, 4}}, api.Image{W: 1, H: 1, C: 4, Pix: []byte{1, 2, 3, 4}}},
	} {
		if got, e := mip.Half(c.m); !same(got, c.want) || e != api.OK {
			t.Errorf("Half of %v: %v %v, not %v", c.m, got, e, c.want)
		}
	}
}

func TestP31_1_Wrong(t *testing.T) {
	for _, w := range wrong() {
		if got, e := mip.Half(w.m); !same(got, api.Image{}) || got.Pix != nil || e != w.want {
			t.Errorf("Half of %v: %v %v, not %v", w.m, got, e, w.want)
		}
		for _, n := range []int{0, 1, 15, 16, -1} {
			if got, e := mip.Pyramid(w.m, n); len(got) != 0 || e != w.want {
				t.Errorf("Pyramid of %v: %v %v, not %v", w.m, got, e, w.want)
			}
		}
	}
}

func TestP31_2_Pyramid(t *testing.T) {
	for _, m := range all() {
		before := bytes.Clone(m.Pix)
		for n := range 16 {
			got, e := mip.Pyramid(m, n)
			if want := pyramid(m, n); !slices.EqualFunc(got, want, same) || e != api.OK {
				t.Fatalf("%d of %d by %d: %d images, %v, not %d", n, m.W, m.H, len(got), e, len(want))
			}
			if len(got) != mip.Count(m.W, m.H, n) {
				t.Fatalf("%d of %d by %d: %d images, and Count tells %d", n, m.W, m.H, len(got), mip.Count(m.W, m.H, n))
			}
			for k, s := range got {
				if w, h := mip.Size(m.W, m.H, k); w != s.W || h != s.H {
					t.Fatalf("image %d of %d by %d: %d by %d, and Size tells %d by %d", k, m.W, m.H, s.W, s.H, w, h)
				}
			}
		}
		for _, n := range []int{-1, 16, 17, math.MinInt, math.MaxInt} {
			if got, e := mip.Pyramid(m, n); len(got) != 0 || e != api.ErrArg {
				t.Errorf("%d levels: %d images, %v", n, len(got), e)
			}
		}
		if !bytes.Equal(m.Pix, before) {
			t.Fatalf("%d by %d is changed", m.W, m.H)
		}
	}
}

func TestP31_2_PyramidOfLong(t *testing.T) {
	for _, m := range long() {
		got, e := mip.Pyramid(m, 15)
		if want := pyramid(m, 15); !slices.EqualFunc(got, want, same) || e != api.OK {
			t.Errorf("%d by %d: %d images, %v, not %d", m.W, m.H, len(got), e, len(want))
		}
	}
	if l, e := mip.Pyramid(some(32768, 1, 1), 15); len(l) != 16 || l[15].W != 1 || e != api.OK {
		t.Errorf("%d images, %v", len(l), e)
	}
}

// P2: the images are new, each of them, and share nothing.
func TestP31_2_Memory(t *testing.T) {
	m := some(5, 4, 3)
	want := pyramid(some(5, 4, 3), 9)
	got, _ := mip.Pyramid(m, 9)
	clear(m.Pix)
	if !slices.EqualFunc(got, want, same) {
		t.Fatalf("%v", got)
	}
	for k := range got {
		_ = append(got[k].Pix, 1, 2, 3)
		clear(got[k].Pix)
		for i := k + 1; i < len(got); i++ {
			if !same(got[i], want[i]) {
				t.Fatalf("image %d is changed with image %d", i, k)
			}
		}
	}
	if again, _ := mip.Pyramid(some(5, 4, 3), 9); !slices.EqualFunc(again, want, same) {
		t.Errorf("%v", again)
	}
}

// sides are numbers of columns at and beside powers of two, and at the ends; and some that are none.
func sides() []int {
	l := []int{0, -1, math.MinInt, math.MaxInt, 32769, 1 << 40, 5, 11, 100, 333, 20000}
	for k := range 16 {
		l = append(l, 1<<k-1, 1<<k, min(1<<k+1, 32768))
	}
	return l
}

func TestP31_2_SizeAndCount(t *testing.T) {
	right := func(n int) bool { return 1 <= n && n <= 32768 }
	for _, w := range sides() {
		for _, h := range sides() {
			wide, high, count := w, h, 1
			for k := range 16 {
				if !right(w) || !right(h) {
					wide, high, count = 0, 0, 0
				}
				if a, b := mip.Size(w, h, k); a != wide || b != high {
					t.Fatalf("Size(%d, %d, %d): %d %d, not %d %d", w, h, k, a, b, wide, high)
				}
				if got := mip.Count(w, h, k); got != count {
					t.Fatalf("Count(%d, %d, %d): %d, not %d", w, h, k, got, count)
				}
				if wide > 1 || high > 1 {
					count++
				}
				wide, high = wide/2+wide%2, high/2+high%2
			}
			for _, k := range []int{-1, 16, 17, 63, 64, math.MinInt, math.MaxInt} {
				if a, b := mip.Size(w, h, k); a != 0 || b != 0 {
					t.Errorf("Size(%d, %d, %d): %d %d", w, h, k, a, b)
				}
				if got := mip.Count(w, h, k); got != 0 {
					t.Errorf("Count(%d, %d, %d): %d", w, h, k, got)
				}
			}
		}
	}
	if w, h := mip.Size(5, 3, 1); w != 3 || h != 2 {
		t.Errorf("the document's: %d %d", w, h)
	}
	if n := mip.Count(32768, 32768, 15); n != 16 { // more pixels than an image may have
		t.Errorf("the greatest: %d", n)
	}
}

func TestP31_3_OneColour(t *testing.T) {
	for _, own := range [][]byte{{0}, {255}, {1}, {254}, {127}, {9, 128, 255}, {0, 1, 2, 3}} {
		for _, s := range sizes {
			m := api.Image{W: s[0], H: s[1], C: len(own), Pix: bytes.Repeat(own, s[0]*s[1])}
			l, e := mip.Pyramid(m, 15)
			for k, p := range l {
				if !bytes.Equal(p.Pix, bytes.Repeat(own, p.W*p.H)) || e != api.OK {
					t.Fatalf("%v of %d by %d, image %d: %v %v", own, m.W, m.H, k, p, e)
				}
			}
		}
	}
}

func TestP31_3_Between(t *testing.T) {
	for _, m := range all() {
		s, _ := mip.Half(m)
		for i, b := range s.Pix {
			low, high := byte(255), byte(0)
			for _, y := range of(i/s.C/s.W, m.H) {
				for _, x := range of(i/s.C%s.W, m.W) {
					one := m.Pix[(y*m.W+x)*m.C+i%s.C]
					low, high = min(low, one), max(high, one)
				}
			}
			if b < low || b > high {
				t.Fatalf("%d by %d, byte %d: %d is not from %d to %d", m.W, m.H, i, b, low, high)
			}
		}
	}
}

// P1 and P2: all end at all edges, wrong ones too, and tell the same again, whatever was called between.
func TestP1_P2_TheSameAgain(t *testing.T) {
	images := all()
	for _, w := range wrong() {
		images = append(images, w.m)
	}
	l := sides()
	told := func(i int) string {
		m, n := images[i%len(images)], i%19-2
		half, e := mip.Half(m)
		all, code := mip.Pyramid(m, n)
		w, h := mip.Size(l[i%len(l)], l[i*7%len(l)], n)
		return fmt.Sprint(half, e, all, code, w, h, mip.Count(l[i%len(l)], l[i*7%len(l)], n))
	}
	var first []string
	for i := range 300 {
		first = append(first, told(i))
	}
	for i := len(first) - 1; i >= 0; i-- {
		if again := told(i); again != first[i] {
			t.Fatalf("%d: %s, then %s", i, first[i], again)
		}
	}
}
