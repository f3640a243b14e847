package img_test

import (
	"bytes"
	"fmt"
	"math"
	"slices"
	"testing"

	"anamorph/api"
	"anamorph/img"
)

// shapes are the sizes of small images: one pixel, one row, one column, and others.
var shapes = [][2]int{{1, 1}, {5, 1}, {1, 4}, {2, 2}, {3, 2}, {4, 5}}

// some is an image whose bytes all tell their place.
func some(w, h, c int) api.Image {
	m := api.Image{W: w, H: h, C: c}
	for i := range w * h * c {
		m.Pix = append(m.Pix, byte(i*7+3))
	}
	return m
}

// all are right images of each number of channels.
func all() []api.Image {
	var l []api.Image
	for _, s := range shapes {
		for _, c := range []int{1, 3, 4} {
			l = append(l, some(s[0], s[1], c))
		}
	}
	return l
}

// bad is an image that isn't right, and its code.
type bad struct {
	m    api.Image
	want api.Errno
}

// wrong are images that aren't right; of several errors the first one counts.
func wrong() []bad {
	one := []byte{1}
	return []bad{
		{api.Image{}, api.ErrArg},
		{api.Image{W: 1, H: 1, C: 0, Pix: one}, api.ErrArg},
		{api.Image{W: 1, H: 1, C: 2, Pix: make([]byte, 2)}, api.ErrArg},
		{api.Image{W: 1, H: 1, C: 5, Pix: make([]byte, 5)}, api.ErrArg},
		{api.Image{W: 1, H: 1, C: -1, Pix: one}, api.ErrArg},
		{api.Image{W: -1, H: 1, C: -1, Pix: one}, api.ErrArg},
		{api.Image{W: 1, H: 1, C: math.MinInt}, api.ErrArg},
		{api.Image{W: 1, H: 1, C: math.MaxInt}, api.ErrArg},
		{api.Image{W: 40000, H: 40000, C: 2}, api.ErrArg},
		{api.Image{W: 0, H: 0, C: 2}, api.ErrArg},
		{api.Image{W: 32769, H: 1, C: 1, Pix: make([]byte, 32769)}, api.ErrLimit},
		{api.Image{W: 1, H: 32769, C: 1, Pix: make([]byte, 32769)}, api.ErrLimit},
		{api.Image{W: 40000, H: 0, C: 1}, api.ErrLimit},
		{api.Image{W: -5, H: 32769, C: 3}, api.ErrLimit},
		{api.Image{W: math.MaxInt, H: math.MaxInt, C: 4}, api.ErrLimit},
		{api.Image{W: math.MaxInt, H: math.MinInt, C: 4}, api.ErrLimit},
		{api.Image{W: 2049, H: 2048, C: 1, Pix: make([]byte, 2049*2048)}, api.ErrLimit},
		{api.Image{W: 32768, H: 129, C: 1}, api.ErrLimit},
		{api.Image{W: 32768, H: 32768, C: 4}, api.ErrLimit},
		{api.Image{W: 0, H: 1, C: 1}, api.ErrSize},
		{api.Image{W: 1, H: 0, C: 1}, api.ErrSize},
		{api.Image{W: 0, H: 0, C: 4}, api.ErrSize},
		{api.Image{W: -1, H: -1, C: 1, Pix: one}, api.ErrSize},
		{api.Image{W: -32768, H: -32768, C: 1}, api.ErrSize},
		{api.Image{W: math.MinInt, H: math.MinInt, C: 1}, api.ErrSize},
		{api.Image{W: 0, H: 32768, C: 1}, api.ErrSize},
		{api.Image{W: 1, H: 1, C: 1}, api.ErrSize},
		{api.Image{W: 1, H: 1, C: 1, Pix: make([]byte, 2)}, api.ErrSize},
		{api.Image{W: 2, H: 2, C: 3, Pix: make([]byte, 11)}, api.ErrSize},
		{api.Image{W: 2, H: 2, C: 3, Pix: make([]byte, 13)}, api.ErrSize},
		{api.Image{W: 2, H: 2, C: 4, Pix: make([]byte, 12)}, api.ErrSize},
		{api.Image{W: 32768, H: 128, C: 1, Pix: make([]byte, 1<<22-1)}, api.ErrSize},
	}
}

// alike tells whether two images are; it asks nothing of the package.
func alike(a, b api.Image) bool {
	return a.W == b.W && a.H == b.H && a.C == b.C && slices.Equal(a.Pix, b.Pix)
}

// copied is an image with memory of its own.
func copied(m api.Image) api.Image {
	m.Pix = slices.Clone(m.Pix)
	return m
}

// nothing tells whether an image is the zero value.
func nothing(m api.Image) bool { return m.W == 0 && m.H == 0 && m.C == 0 && len(m.Pix) == 0 }

func TestP7_1_Check(t *testing.T) {
	for _, c := range wrong() {
		if e := img.Check(c.m); e != c.want {
			t.Errorf("Check of %d x %d x %d, %d bytes: %v, not %v", c.m.W, c.m.H, c.m.C, len(c.m.Pix), e, c.want)
		}
	}
	for _, m := range all() {
		if e := img.Check(m); e != api.OK {
			t.Errorf("Check of %d x %d x %d: %v", m.W, m.H, m.C, e)
		}
	}
	for _, c := range [][3]int{{32768, 128, 1}, {128, 32768, 3}, {2048, 2048, 4}, {32768, 1, 4}, {1, 32768, 1}} {
		m := api.Image{W: c[0], H: c[1], C: c[2], Pix: make([]byte, c[0]*c[1]*c[2])}
		if e := img.Check(m); e != api.OK {
			t.Errorf("Check of %v: %v", c, e)
		}
	}
}

func TestP7_2_New(t *testing.T) {
	for _, c := range [][3]int{{1, 1, 1}, {5, 1, 3}, {1, 4, 4}, {3, 2, 3}, {32768, 128, 1}, {2048, 2048, 4}} {
		m, e := img.New(c[0], c[1], c[2])
		if e != api.OK || !alike(m, api.Image{W: c[0], H: c[1], C: c[2], Pix: make([]byte, c[0]*c[1]*c[2])}) {
			t.Errorf("New(%v): %v", c, e)
		}
	}
	for _, c := range []struct {
		w, h, c int
		want    api.Errno
	}{
		{2, 2, 2, api.ErrArg}, {40000, 0, 2, api.ErrArg}, {1, 1, 0, api.ErrArg}, {1, 1, -3, api.ErrArg}, {0, 0, 0, api.ErrArg},
		{40000, 0, 1, api.ErrLimit}, {0, 40000, 1, api.ErrLimit}, {32769, 1, 1, api.ErrLimit}, {1, 32769, 4, api.ErrLimit},
		{2049, 2048, 1, api.ErrLimit}, {32768, 129, 3, api.ErrLimit}, {math.MaxInt, math.MaxInt, 4, api.ErrLimit}, {math.MaxInt, 2, 1, api.ErrLimit},
		{0, 1, 1, api.ErrSize}, {1, 0, 3, api.ErrSize}, {-1, -1, 4, api.ErrSize}, {0, 32768, 1, api.ErrSize},
		{-32768, -32768, 1, api.ErrSize}, {math.MinInt, math.MinInt, 1, api.ErrSize}, {math.MinInt, 1, 1, api.ErrSize},
	} {
		if m, e := img.New(c.w, c.h, c.c); e != c.want || !nothing(m) {
			t.Errorf("New(%d, %d, %d): %v, %v, not %v", c.w, c.h, c.c, m, e, c.want)
		}
	}
}

func TestP7_2_Fill(t *testing.T) {
	for _, s := range shapes {
		for _, color := range [][]byte{{9}, {1, 2, 3}, {255, 0, 128, 7}} {
			m, e := img.Fill(s[0], s[1], color)
			want := api.Image{W: s[0], H: s[1], C: len(color), Pix: bytes.Repeat(color, s[0]*s[1])}
			if e != api.OK || !alike(m, want) {
				t.Errorf("Fill(%v, %v): %v, %v", s, color, m, e)
			}
		}
	}
	for _, c := range []struct {
		w, h  int
		color []byte
		want  api.Errno
	}{
		{2, 2, nil, api.ErrArg}, {2, 2, []byte{}, api.ErrArg}, {2, 2, []byte{1, 2}, api.ErrArg}, {2, 2, make([]byte, 5), api.ErrArg},
		{40000, 0, []byte{1, 2}, api.ErrArg}, {40000, 0, []byte{1}, api.ErrLimit}, {2049, 2048, []byte{1, 2, 3}, api.ErrLimit},
		{0, 5, []byte{1}, api.ErrSize}, {5, -5, []byte{1, 2, 3, 4}, api.ErrSize},
	} {
		if m, e := img.Fill(c.w, c.h, c.color); e != c.want || !nothing(m) {
			t.Errorf("Fill(%d, %d, %v): %v, %v, not %v", c.w, c.h, c.color, m, e, c.want)
		}
	}
}

func TestP7_3_At(t *testing.T) {
	for _, m := range all() {
		for y := -2; y <= m.H+1; y++ {
			for x := -2; x <= m.W+1; x++ {
				for k := -2; k <= m.C+1; k++ {
					var want byte
					is := 0 <= x && x < m.W && 0 <= y && y < m.H && 0 <= k && k < m.C
					if is {
						want = m.Pix[(y*m.W+x)*m.C+k]
					}
					if v, got := img.At(m, x, y, k); v != want || got != is {
						t.Fatalf("At(%d, %d, %d) of %d x %d x %d: %d %v", x, y, k, m.W, m.H, m.C, v, got)
					}
				}
			}
		}
		for _, x := range []int{math.MinInt, math.MaxInt} {
			for _, p := range [][3]int{{x, 0, 0}, {0, x, 0}, {0, 0, x}, {x, x, x}} {
				if v, is := img.At(m, p[0], p[1], p[2]); v != 0 || is {
					t.Errorf("At(%v): %d %v", p, v, is)
				}
			}
		}
	}
	for _, c := range wrong() {
		if v, is := img.At(c.m, 0, 0, 0); v != 0 || is {
			t.Errorf("At of %d x %d x %d: %d %v", c.m.W, c.m.H, c.m.C, v, is)
		}
	}
}

func TestP7_3_Set(t *testing.T) {
	for _, old := range all() {
		for y := -1; y <= old.H; y++ {
			for x := -1; x <= old.W; x++ {
				for k := -1; k <= old.C; k++ {
					m, want := copied(old), copied(old)
					is := 0 <= x && x < m.W && 0 <= y && y < m.H && 0 <= k && k < m.C
					if is {
						want.Pix[(y*m.W+x)*m.C+k] = 250
					}
					if got := img.Set(&m, x, y, k, 250); got != is || !alike(m, want) {
						t.Fatalf("Set(%d, %d, %d) of %d x %d x %d: %v, %v", x, y, k, m.W, m.H, m.C, got, m.Pix)
					}
				}
			}
		}
		m := copied(old)
		for _, x := range []int{math.MinInt, math.MaxInt} {
			if img.Set(&m, x, 0, 0, 1) || img.Set(&m, 0, x, 0, 1) || img.Set(&m, 0, 0, x, 1) || !alike(m, old) {
				t.Errorf("Set at %d", x)
			}
		}
	}
	for _, c := range wrong() {
		m := copied(c.m)
		if img.Set(&m, 0, 0, 0, 77) || !alike(m, c.m) {
			t.Errorf("Set of %d x %d x %d", c.m.W, c.m.H, c.m.C)
		}
	}
	if img.Set(nil, 0, 0, 0, 1) {
		t.Error("Set of nil")
	}
}

func TestP7_3_Row(t *testing.T) {
	for _, m := range all() {
		for _, y := range []int{math.MinInt, -1, 0, 1, m.H - 1, m.H, m.H + 1, math.MaxInt} {
			var want []byte
			if 0 <= y && y < m.H {
				want = m.Pix[y*m.W*m.C : (y+1)*m.W*m.C]
			}
			if got := img.Row(m, y); !slices.Equal(got, want) {
				t.Errorf("Row %d of %d x %d x %d: %v, not %v", y, m.W, m.H, m.C, got, want)
			}
		}
	}
	for _, c := range wrong() {
		if got := img.Row(c.m, 0); len(got) != 0 {
			t.Errorf("Row of %d x %d x %d: %v", c.m.W, c.m.H, c.m.C, got)
		}
	}
}

func TestP7_4_Crop(t *testing.T) {
	for _, m := range all() {
		for y0 := -1; y0 <= m.H+1; y0++ {
			for x0 := -1; x0 <= m.W+1; x0++ {
				for y1 := -1; y1 <= m.H+1; y1++ {
					for x1 := -1; x1 <= m.W+1; x1++ {
						crops(t, m, api.Rect{X0: x0, Y0: y0, X1: x1, Y1: y1})
					}
				}
			}
		}
		far := math.MaxInt
		for _, r := range []api.Rect{
			{}, {X0: 1, Y0: 1}, {X1: far, Y1: far}, {X0: -far, Y0: -far, X1: far, Y1: far}, {X0: -far - 1, Y1: 1, X1: 1}, {X1: 1 << 31, Y1: 1},
			{X0: -1 << 31, X1: 1, Y1: 1}, {X0: -1<<31 - 1, X1: 1, Y1: 1}, {X1: 1, Y1: 1<<31 + 1}, {X0: far, Y0: far, X1: far, Y1: far},
		} {
			if c, e := img.Crop(m, r); e != api.ErrRange || !nothing(c) {
				t.Errorf("Crop of %v: %v, %v", r, c, e)
			}
		}
	}
	for _, c := range wrong() {
		for _, r := range []api.Rect{{}, {X1: 1, Y1: 1}, {X0: 5, X1: 1 << 40}} {
			if p, e := img.Crop(c.m, r); e != c.want || !nothing(p) {
				t.Errorf("Crop of %d x %d x %d: %v, not %v", c.m.W, c.m.H, c.m.C, e, c.want)
			}
		}
	}
}

// crops checks one Crop against one byte by byte.
func crops(t *testing.T, m api.Image, r api.Rect) {
	t.Helper()
	var want api.Image
	e := api.ErrRange
	if 0 <= r.X0 && r.X0 < r.X1 && r.X1 <= m.W && 0 <= r.Y0 && r.Y0 < r.Y1 && r.Y1 <= m.H {
		want, e = api.Image{W: r.X1 - r.X0, H: r.Y1 - r.Y0, C: m.C}, api.OK
		for y := r.Y0; y < r.Y1; y++ {
			for x := r.X0; x < r.X1; x++ {
				for k := range m.C {
					want.Pix = append(want.Pix, m.Pix[(y*m.W+x)*m.C+k])
				}
			}
		}
	}
	if got, code := img.Crop(m, r); code != e || !alike(got, want) {
		t.Fatalf("Crop(%d x %d x %d, %v): %v, %v, not %v, %v", m.W, m.H, m.C, r, got, code, want, e)
	}
}

func TestP7_4_Paste(t *testing.T) {
	for _, c := range []int{1, 3, 4} {
		for _, s := range shapes {
			for _, p := range shapes {
				at := some(p[0], p[1], c)
				for i := range at.Pix {
					at.Pix[i] = 255 - byte(i)
				}
				for y := -2; y <= s[1]+1; y++ {
					for x := -2; x <= s[0]+1; x++ {
						pastes(t, some(s[0], s[1], c), at, x, y)
					}
				}
			}
		}
	}
	m, one := some(3, 3, 1), some(1, 1, 1)
	for _, p := range [][2]int{{math.MinInt, 0}, {0, math.MinInt}, {math.MaxInt, 0}, {0, math.MaxInt}, {math.MaxInt, math.MaxInt}, {math.MinInt, math.MaxInt}} {
		if e := img.Paste(&m, one, p[0], p[1]); e != api.ErrRange || !alike(m, some(3, 3, 1)) {
			t.Errorf("Paste at %v: %v", p, e)
		}
	}
}

// pastes checks one Paste against one byte by byte.
func pastes(t *testing.T, m, at api.Image, x, y int) {
	t.Helper()
	old, kept, want, e := copied(m), copied(at), copied(m), api.ErrRange
	if 0 <= x && x+at.W <= m.W && 0 <= y && y+at.H <= m.H {
		e = api.OK
		for i, v := range at.Pix {
			k, col, row := i%at.C, i/at.C%at.W, i/at.C/at.W
			want.Pix[((y+row)*m.W+x+col)*m.C+k] = v
		}
	}
	if got := img.Paste(&m, at, x, y); got != e || !alike(m, want) || !alike(at, kept) {
		t.Fatalf("Paste of %d x %d into %d x %d at %d, %d: %v, not %v: %v", at.W, at.H, old.W, old.H, x, y, got, e, m.Pix)
	}
}

func TestP7_4_PasteOfWrongOnes(t *testing.T) {
	one := some(1, 1, 1)
	if e := img.Paste(nil, one, 0, 0); e != api.ErrArg {
		t.Errorf("into nil: %v", e)
	}
	for _, c := range wrong() {
		m := copied(c.m)
		if e := img.Paste(&m, one, 0, 0); e != c.want || !alike(m, c.m) {
			t.Errorf("into %d x %d x %d: %v, not %v", m.W, m.H, m.C, e, c.want)
		}
		if e := img.Paste(&m, api.Image{C: 2}, 0, 0); e != c.want || !alike(m, c.m) {
			t.Errorf("a wrong one into %d x %d x %d: %v, not %v", m.W, m.H, m.C, e, c.want)
		}
		m = some(2, 2, 3)
		if e := img.Paste(&m, c.m, 9, 9); e != c.want || !alike(m, some(2, 2, 3)) {
			t.Errorf("of %d x %d x %d: %v, not %v", c.m.W, c.m.H, c.m.C, e, c.want)
		}
		if e := img.Paste(nil, c.m, 0, 0); e != api.ErrArg {
			t.Errorf("of %d x %d x %d into nil: %v", c.m.W, c.m.H, c.m.C, e)
		}
	}
	for _, c := range []int{1, 3, 4} {
		for _, k := range []int{1, 3, 4} {
			if c == k {
				continue
			}
			for _, x := range []int{0, 5} { // there it doesn't fit, either
				m := some(2, 2, c)
				if e := img.Paste(&m, some(1, 1, k), x, 0); e != api.ErrArg || !alike(m, some(2, 2, c)) {
					t.Errorf("%d channels into %d: %v", k, c, e)
				}
			}
		}
	}
}

func TestP7_4_PasteOfItsOwnMemory(t *testing.T) {
	m := some(3, 4, 1)
	at := api.Image{W: 3, H: 3, C: 1, Pix: m.Pix[:9]}
	want := append(slices.Clone(m.Pix[:3]), m.Pix[:9]...)
	if e := img.Paste(&m, at, 0, 1); e != api.OK || !slices.Equal(m.Pix, want) {
		t.Errorf("a row down: %v, %v, not %v", e, m.Pix, want)
	}
	m = some(3, 4, 1)
	at = api.Image{W: 3, H: 3, C: 1, Pix: m.Pix[3:]}
	want = append(slices.Clone(m.Pix[3:]), m.Pix[9:]...)
	if e := img.Paste(&m, at, 0, 0); e != api.OK || !slices.Equal(m.Pix, want) {
		t.Errorf("a row up: %v, %v, not %v", e, m.Pix, want)
	}
	m = some(4, 3, 3)
	if e := img.Paste(&m, m, 0, 0); e != api.OK || !alike(m, some(4, 3, 3)) {
		t.Errorf("onto itself: %v, %v", e, m.Pix)
	}
}

func TestP7_4_Same(t *testing.T) {
	l := append(all(), api.Image{}, api.Image{W: -1, H: 3, C: 7, Pix: []byte{1}}, api.Image{W: 1, H: 1, C: 1, Pix: []byte{1, 2}}, api.Image{W: 1, H: 1, C: 1, Pix: []byte{1, 3}})
	l = append(l, api.Image{W: 2, H: 3, C: 1, Pix: make([]byte, 6)}, api.Image{W: 3, H: 2, C: 1, Pix: make([]byte, 6)}, api.Image{W: 6, H: 1, C: 1, Pix: make([]byte, 6)}, api.Image{W: 2, H: 1, C: 3, Pix: make([]byte, 6)})
	l = append(l, api.Image{W: 2, H: 3, C: 3, Pix: make([]byte, 6)}, api.Image{W: 3, H: 3, C: 1, Pix: make([]byte, 6)}, api.Image{W: 2, H: 4, C: 1, Pix: make([]byte, 6)})
	for i, a := range l {
		for k, b := range l {
			if img.Same(a, copied(b)) != (i == k) {
				t.Errorf("Same(%v, %v): %v", a, b, i != k)
			}
		}
		for at := range a.Pix {
			b := copied(a)
			b.Pix[at]++
			if img.Same(a, b) || img.Same(b, a) {
				t.Errorf("Same but for byte %d", at)
			}
		}
	}
	if !img.Same(api.Image{}, api.Image{Pix: []byte{}}) {
		t.Error("no bytes and nil aren't the same")
	}
}

func TestP7_5_Memory(t *testing.T) {
	m := some(3, 2, 3)
	row := img.Row(m, 1)
	part, _ := img.Crop(m, api.Rect{X1: 3, Y1: 2})
	strip, _ := img.Crop(m, api.Rect{X1: 3, Y1: 1})
	for i := range m.Pix {
		m.Pix[i] = 0
	}
	old := some(3, 2, 3)
	if !slices.Equal(row, old.Pix[9:]) || !alike(part, old) || !slices.Equal(strip.Pix, old.Pix[:9]) {
		t.Errorf("with the image: %v, %v, %v", row, part.Pix, strip.Pix)
	}
	m = some(3, 2, 3)
	row = img.Row(m, 0)
	part, _ = img.Crop(m, api.Rect{X1: 3, Y1: 2})
	clear(append(row, 0, 0, 0))
	clear(part.Pix)
	_ = append(row[:9], 1, 2, 3)
	if !alike(m, old) {
		t.Errorf("the image with what was told: %v", m.Pix)
	}
	color := []byte{1, 2, 3}
	filled, _ := img.Fill(2, 1, color)
	clear(color)
	if !slices.Equal(filled.Pix, []byte{1, 2, 3, 1, 2, 3}) {
		t.Errorf("with the colour: %v", filled.Pix)
	}
	into, at := some(3, 2, 3), some(3, 2, 3)
	_ = img.Paste(&into, at, 0, 0)
	clear(at.Pix)
	if !alike(into, old) {
		t.Errorf("with what was put in: %v", into.Pix)
	}
	at = some(3, 2, 3)
	_ = img.Paste(&into, at, 0, 0)
	clear(into.Pix)
	if !alike(at, old) {
		t.Errorf("what was put in with the image: %v", at.Pix)
	}
	a, _ := img.New(2, 2, 1)
	b, _ := img.New(2, 2, 1)
	a.Pix[0] = 5
	if b.Pix[0] != 0 {
		t.Error("two new ones")
	}
}

// every is what all calls tell of two images and some numbers.
func every(a, b api.Image, x, y, k int) string {
	a, b = copied(a), copied(b)
	v, is := img.At(a, x, y, k)
	crop, e1 := img.Crop(a, api.Rect{X0: x, Y0: y, X1: k, Y1: k})
	made, e2 := img.New(min(x, 9), min(y, 9), k)
	full, e3 := img.Fill(min(x, 9), min(y, 9), b.Pix[:min(len(b.Pix), 4)])
	told := fmt.Sprint(img.Check(a), v, is, crop, e1, made, e2, full, e3, img.Row(a, y), img.Same(a, b))
	told += fmt.Sprint(img.Paste(&a, b, x, y))
	return told + fmt.Sprint(img.Set(&a, x, y, k, 99), a.Pix[:min(len(a.Pix), 99)])
}

// P1 and P2: all end at all edges, wrong images too, and tell the same again, whatever was called between.
func TestP1_P2_TheSameAgain(t *testing.T) {
	l := all()
	for _, c := range wrong() {
		if len(c.m.Pix) < 99 {
			l = append(l, c.m)
		}
	}
	numbers := []int{0, 1, 2, 3, 4, -1, math.MinInt, math.MaxInt}
	var first []string
	for i, a := range l {
		for k, b := range l {
			first = append(first, every(a, b, numbers[i%8], numbers[k%8], numbers[(i+k)%5]))
		}
	}
	for n := len(first) - 1; n >= 0; n-- {
		i, k := n/len(l), n%len(l)
		if again := every(l[i], l[k], numbers[i%8], numbers[k%8], numbers[(i+k)%5]); again != first[n] {
			t.Fatalf("%v, %v: %s, then %s", l[i], l[k], first[n], again)
		}
	}
}
