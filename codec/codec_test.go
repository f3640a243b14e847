package codec_test

import (
	"bytes"
	"fmt"
	"math"
	"slices"
	"testing"

	"anamorph/api"
	"anamorph/bmp"
	"anamorph/codec"
	"anamorph/pnm"
)

// some is an image whose bytes all tell their place.
func some(w, h, c int) api.Image {
	m := api.Image{W: w, H: h, C: c}
	for i := range w * h * c {
		m.Pix = append(m.Pix, byte(i*37+9))
	}
	return m
}

// all are right images of a number of channels.
func all(c int) []api.Image {
	var l []api.Image
	for _, s := range [][2]int{{1, 1}, {5, 1}, {1, 4}, {2, 2}, {3, 2}, {12, 10}} {
		l = append(l, some(s[0], s[1], c))
	}
	return l
}

// alike tells whether two images are.
func alike(a, b api.Image) bool {
	return a.W == b.W && a.H == b.H && a.C == b.C && bytes.Equal(a.Pix, b.Pix)
}

// known is what is told of a kind.
type known struct {
	kind     int
	name     string
	channels int
}

var kinds = []known{{codec.Pgm, "pgm", 1}, {codec.Ppm, "ppm", 3}, {codec.Bmp24, "bmp24", 3}, {codec.Bmp32, "bmp32", 4}}

// none are numbers that are no kind.
var none = []int{math.MinInt, -2, -1, codec.None, 5, 6, 256 + 1, 1 << 32, 1<<32 + 2, math.MaxInt}

// with is a head of BM's, of which so many bytes are given, with two of them at 28.
func with(n int, low, high byte) []byte {
	b := make([]byte, 60)
	copy(b, "BM")
	b[28], b[29] = low, high
	return b[:n]
}

func TestP17_1_Numbers(t *testing.T) {
	if codec.None != 0 || codec.Pgm != 1 || codec.Ppm != 2 || codec.Bmp24 != 3 || codec.Bmp32 != 4 {
		t.Error("the kinds' numbers")
	}
}

func TestP17_1_ChannelsAndNames(t *testing.T) {
	for _, k := range kinds {
		if c, s := codec.Channels(k.kind), codec.Name(k.kind); c != k.channels || s != k.name {
			t.Errorf("of %d: %d %q", k.kind, c, s)
		}
		if kind, is := codec.Named(k.name); kind != k.kind || !is {
			t.Errorf("Named(%q): %d %v", k.name, kind, is)
		}
	}
	for _, kind := range none {
		if c, s := codec.Channels(kind), codec.Name(kind); c != 0 || s != "" {
			t.Errorf("of %d: %d %q", kind, c, s)
		}
	}
	for _, s := range []string{"", " ", "none", "None", "PGM", "Pgm", "pgm ", " pgm", "pg", "pgmm", "pnm", "pbm", "p5", "P5", "P6", "bmp", "bmp2", "bmp8", "bmp240", "bmp 24", "bmp16", "BMP24", "Bmp32", "bmp32\x00", "0", "1", "\xff"} {
		if kind, is := codec.Named(s); kind != codec.None || is {
			t.Errorf("Named(%q): %d %v", s, kind, is)
		}
	}
}

func TestP17_1_Kind(t *testing.T) {
	for _, c := range []struct {
		b    []byte
		want int
	}{
		{nil, codec.None}, {[]byte{}, codec.None}, {[]byte("P"), codec.None}, {[]byte("P5"), codec.Pgm}, {[]byte("P6"), codec.Ppm}, {[]byte("P4"), codec.None}, {[]byte("P7"), codec.None}, {[]byte("p5"), codec.None}, {[]byte(" P5"), codec.None}, {[]byte("5P"), codec.None},
		{[]byte("P5x"), codec.Pgm}, {[]byte("P6 1 1 255"), codec.Ppm}, {[]byte("P\x005"), codec.None}, {append([]byte("P5"), with(60, 24, 0)...), codec.Pgm},
		{[]byte("B"), codec.None}, {[]byte("BM"), codec.None}, {with(29, 24, 0), codec.None}, {with(30, 24, 0), codec.Bmp24}, {with(31, 24, 0), codec.Bmp24}, {with(60, 24, 0), codec.Bmp24}, {with(29, 32, 0), codec.None}, {with(30, 32, 0), codec.Bmp32}, {with(54, 32, 0), codec.Bmp32},
		{with(28, 24, 0), codec.None}, {with(60, 24, 1), codec.None}, {with(60, 0, 24), codec.None}, {with(60, 32, 255), codec.None}, {with(60, 0, 32), codec.None}, {with(60, 0, 0), codec.None}, {with(60, 16, 0), codec.None}, {with(60, 8, 0), codec.None}, {with(60, 1, 0), codec.None},
		{append([]byte("MB"), with(60, 24, 0)[2:]...), codec.None}, {append([]byte("BN"), with(60, 24, 0)[2:]...), codec.None}, {append([]byte("AM"), with(60, 32, 0)[2:]...), codec.None},
	} {
		kept := slices.Clone(c.b)
		if kind := codec.Kind(c.b); kind != c.want || !bytes.Equal(c.b, kept) {
			t.Errorf("Kind(%q): %d, not %d", c.b, kind, c.want)
		}
	}
	for low := range 256 {
		for _, high := range []byte{0, 1, 24, 32, 255} {
			want := codec.None
			if high == 0 && low == 24 {
				want = codec.Bmp24
			}
			if high == 0 && low == 32 {
				want = codec.Bmp32
			}
			if kind := codec.Kind(with(30, byte(low), high)); kind != want {
				t.Errorf("Kind of BM with %d, %d: %d", low, high, kind)
			}
		}
	}
	for a := range 256 {
		for b := range 256 {
			two := []byte{byte(a), byte(b)}
			if want := map[string]int{"P5": codec.Pgm, "P6": codec.Ppm}[string(two)]; codec.Kind(two) != want {
				t.Errorf("Kind(%q): %d", two, codec.Kind(two))
			}
		}
	}
}

// reads checks one Read against the Read of the form that the first byte tells.
func reads(t *testing.T, b []byte) {
	t.Helper()
	var want api.Image
	code, kind, kept := api.ErrForm, codec.None, slices.Clone(b)
	switch {
	case len(b) == 0:
		code = api.ErrShort
	case b[0] == 'P':
		want, code = pnm.Read(b)
	case b[0] == 'B':
		want, code = bmp.Read(b)
	}
	if code == api.OK {
		kind = map[string]int{"P51": codec.Pgm, "P63": codec.Ppm, "BM3": codec.Bmp24, "BM4": codec.Bmp32}[string(b[:2])+fmt.Sprint(want.C)]
	}
	if m, k, e := codec.Read(b); !alike(m, want) || k != kind || e != code || !bytes.Equal(b, kept) {
		t.Fatalf("Read of %.80q: %v %d %v, not %v %d %v", b, m, k, e, want, kind, code)
	}
}

func TestP17_2_Read(t *testing.T) {
	for _, k := range kinds {
		for _, m := range all(k.channels) {
			b, _ := codec.Write(k.kind, m)
			for n := range len(b) + 1 {
				reads(t, b[:n])
			}
			reads(t, append(slices.Clone(b), 0))
			for i := range min(len(b), 60) {
				for _, d := range []byte{1, 2, 7, 16, 32, 64, 128, 255} {
					c := slices.Clone(b)
					c[i] ^= d
					reads(t, c)
				}
			}
		}
	}
	for v := range 256 {
		for _, more := range []string{"", "5", "6", "M", "5 1 1 255 x", "6 1 1 255 xyz"} {
			reads(t, append([]byte{byte(v)}, more...))
		}
	}
}

func TestP17_2_Codes(t *testing.T) {
	right, _ := codec.Write(codec.Bmp24, some(1, 1, 3))
	wrong := slices.Clone(right)
	wrong[2]++
	for _, c := range []struct {
		b    []byte
		want api.Errno
	}{
		{nil, api.ErrShort}, {[]byte{}, api.ErrShort}, {[]byte("x"), api.ErrForm}, {[]byte{0}, api.ErrForm}, {[]byte("\x89PNG"), api.ErrForm}, {[]byte("p5 1 1 255 x"), api.ErrForm}, {[]byte(" P5 1 1 255 x"), api.ErrForm}, {[]byte("M"), api.ErrForm}, {[]byte("b"), api.ErrForm},
		{[]byte("P"), api.ErrShort}, {[]byte("B"), api.ErrShort}, {[]byte("P4"), api.ErrForm}, {[]byte("BP"), api.ErrForm}, {[]byte("PM"), api.ErrForm}, {[]byte("B5 1 1 255 x"), api.ErrForm},
		{[]byte("P5 1 1 255 "), api.ErrShort}, {[]byte("P5 1 1 255 xy"), api.ErrMore}, {[]byte("P5 40000 1 255 x"), api.ErrLimit}, {[]byte("P6 0 1 255 "), api.ErrSize}, {[]byte("P5 1 1 254 x"), api.ErrForm},
		{right[:53], api.ErrShort}, {right[:len(right)-1], api.ErrShort}, {append(slices.Clone(right), 0), api.ErrMore}, {wrong, api.ErrForm},
	} {
		if m, k, e := codec.Read(c.b); e != c.want || k != codec.None || !alike(m, api.Image{}) {
			t.Errorf("Read of %.60q: %v %d %v, not %v", c.b, m, k, e, c.want)
		}
	}
	if m, k, e := codec.Read([]byte("P5 # gray\n1 1\n255 \x07")); e != api.OK || k != codec.Pgm || !alike(m, api.Image{W: 1, H: 1, C: 1, Pix: []byte{7}}) {
		t.Errorf("Read of a gray pixel: %v %d %v", m, k, e)
	}
	if m, k, e := codec.Read(right); e != api.OK || k != codec.Bmp24 || !alike(m, some(1, 1, 3)) {
		t.Errorf("Read of a pixel: %v %d %v", m, k, e)
	}
}

func TestP17_3_Write(t *testing.T) {
	for _, k := range kinds {
		for _, m := range all(k.channels) {
			want, code := pnm.Write(m)
			if k.name[:3] == "bmp" {
				want, code = bmp.Write(m)
			}
			kept := slices.Clone(m.Pix)
			b, e := codec.Write(k.kind, m)
			if e != api.OK || code != api.OK || !bytes.Equal(b, want) || !bytes.Equal(m.Pix, kept) {
				t.Errorf("Write of %s: %q %v, not %q", k.name, b, e, want)
			}
			if codec.Kind(b) != k.kind {
				t.Errorf("Kind of what is written as %s: %d", k.name, codec.Kind(b))
			}
			clear(b)
			if !bytes.Equal(m.Pix, kept) {
				t.Errorf("Write of %s shares memory", k.name)
			}
		}
	}
	if b, e := codec.Write(codec.Ppm, some(1, 1, 3)); string(b) != "P6\n1 1\n255\n\x09\x2e\x53" || e != api.OK {
		t.Errorf("Write of a pixel: %q %v", b, e)
	}
}

func TestP17_3_WriteOfWrongOnes(t *testing.T) {
	wrong := []struct {
		m    api.Image
		want api.Errno
	}{
		{api.Image{}, api.ErrArg}, {api.Image{W: 1, H: 1, C: 2, Pix: make([]byte, 2)}, api.ErrArg}, {api.Image{W: 40000, H: 1, C: 5}, api.ErrArg},
		{api.Image{W: 40000, H: 0, C: 1}, api.ErrLimit}, {api.Image{W: 2049, H: 2048, C: 3}, api.ErrLimit}, {api.Image{W: 32769, H: 1, C: 4}, api.ErrLimit},
		{api.Image{W: 0, H: 1, C: 1}, api.ErrSize}, {api.Image{W: 1, H: 1, C: 1}, api.ErrSize}, {api.Image{W: 1, H: 1, C: 3, Pix: make([]byte, 4)}, api.ErrSize}, {api.Image{W: 1, H: 1, C: 4, Pix: make([]byte, 3)}, api.ErrSize},
	}
	for _, c := range wrong {
		for _, kind := range none {
			if b, e := codec.Write(kind, c.m); e != api.ErrArg || len(b) != 0 {
				t.Errorf("Write of %d, %v: %v", kind, c.m, e)
			}
		}
		// whichever kind: the image's code comes ahead of its channels
		for _, k := range kinds {
			if b, e := codec.Write(k.kind, c.m); e != c.want || len(b) != 0 {
				t.Errorf("Write of %s, %v: %v, not %v", k.name, c.m, e, c.want)
			}
		}
	}
	for _, c := range []int{1, 3, 4} {
		for _, m := range all(c) {
			for _, k := range kinds {
				if b, e := codec.Write(k.kind, m); k.channels != c && (e != api.ErrArg || len(b) != 0) {
					t.Errorf("Write of %d channels as %s: %v", c, k.name, e)
				}
			}
			for _, kind := range none {
				if b, e := codec.Write(kind, m); e != api.ErrArg || len(b) != 0 {
					t.Errorf("Write of %d: %v", kind, e)
				}
			}
		}
	}
}

func TestP17_4_ThereAndBack(t *testing.T) {
	for _, k := range kinds {
		for _, m := range append(all(k.channels), some(256, 256, k.channels)) {
			b, _ := codec.Write(k.kind, m)
			got, kind, e := codec.Read(b)
			if e != api.OK || kind != k.kind || !alike(got, m) {
				t.Errorf("Read of Write of %s: %v %d %v, not %v", k.name, got, kind, e, m)
			}
			clear(b)
			if !alike(got, m) {
				t.Errorf("what was read as %s shares memory", k.name)
			}
		}
	}
}

// P1 and P2: all end at all edges, and tell the same again, whatever was called between.
func TestP1_P2_TheSameAgain(t *testing.T) {
	l := slices.Concat(all(1), all(3), all(4), []api.Image{{}, {W: 1, H: 1, C: 3}, {W: 40000, H: 1, C: 4}})
	numbers := append([]int{1, 2, 3, 4, 1, 2, 3, 4, 1, 2, 3, 4}, none...)
	told := func(i int) string {
		kind := numbers[i/5%len(numbers)]
		b, e := codec.Write(kind, l[i%len(l)])
		if i%3 > 0 && len(b) > 0 {
			b[i*7%len(b)] ^= byte(i)
		}
		m, k, e2 := codec.Read(b)
		n, is := codec.Named(string(b[:min(len(b), i%6)]))
		return fmt.Sprint(b, e, m, k, e2, n, is, codec.Kind(b), codec.Channels(kind), codec.Name(kind))
	}
	var first []string
	for i := range 2000 {
		first = append(first, told(i))
	}
	for i := len(first) - 1; i >= 0; i-- {
		if again := told(i); again != first[i] {
			t.Fatalf("%d: %s, then %s", i, first[i], again)
		}
	}
}
