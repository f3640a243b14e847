package pnm_test

import (
	"bytes"
	"fmt"
	"math"
	"math/big"
	"regexp"
	"runtime"
	"slices"
	"strings"
	"testing"

	"anamorph/api"
	"anamorph/pnm"
)

// some is an image whose bytes all tell their place.
func some(w, h, c int) api.Image {
	m := api.Image{W: w, H: h, C: c}
	for i := range w * h * c {
		m.Pix = append(m.Pix, byte(i*37+9))
	}
	return m
}

// all are right images: one pixel, one row, one column, and others, and bytes that look like a head's.
func all() []api.Image {
	var l []api.Image
	for _, s := range [][2]int{{1, 1}, {5, 1}, {1, 4}, {2, 2}, {3, 2}, {12, 10}} {
		l = append(l, some(s[0], s[1], 1), some(s[0], s[1], 3))
	}
	return append(l,
		api.Image{W: 4, H: 1, C: 1, Pix: []byte("# \n\t")}, api.Image{W: 1, H: 2, C: 3, Pix: []byte("P5 1 1")},
		api.Image{W: 2, H: 1, C: 1, Pix: []byte("55")}, api.Image{W: 256, H: 1, C: 1, Pix: every()},
	)
}

// every is each byte, once.
func every() []byte {
	var b []byte
	for v := range 256 {
		b = append(b, byte(v))
	}
	return b
}

// alike tells whether two images are.
func alike(a, b api.Image) bool {
	return a.W == b.W && a.H == b.H && a.C == b.C && bytes.Equal(a.Pix, b.Pix)
}

var (
	blanks = regexp.MustCompile(`^([\x09-\x0d\x20]|#[^\n]*(\n|\z))+`)
	single = regexp.MustCompile(`^[\x09-\x0d\x20]`)
	number = regexp.MustCompile(`^[0-9]+`)
)

// shape is bytes that are read, step by step, by regular expressions.
type shape struct {
	b []byte
	e api.Errno
}

// fail keeps the first code.
func (s *shape) fail(e api.Errno) {
	if s.e == api.OK {
		s.e = e
	}
}

func (s *shape) one(r *regexp.Regexp) string {
	if len(s.b) == 0 {
		s.fail(api.ErrShort)
	}
	// bytes above 127 are no characters of an expression's: each is one that is neither a blank nor a digit
	text := make([]byte, len(s.b))
	for i, v := range s.b {
		text[i] = min(v, 127)
	}
	got := r.Find(text)
	if len(got) == 0 {
		s.fail(api.ErrForm)
	}
	s.b = s.b[len(got):]
	return string(got)
}

func (s *shape) number(most int64) int {
	text := s.one(number)
	if len(text) > 1 && text[0] == '0' {
		s.fail(api.ErrForm)
	}
	x, is := new(big.Int).SetString(text, 10)
	if !is {
		x = new(big.Int)
	}
	if x.Cmp(big.NewInt(most)) > 0 {
		s.fail(api.ErrLimit)
		return 0
	}
	return int(x.Int64())
}

// reference is what Read must tell.
func reference(b []byte) (api.Image, api.Errno) {
	if len(b) == 0 || len(b) == 1 && b[0] == 'P' {
		return api.Image{}, api.ErrShort
	}
	if b[0] != 'P' || b[1] != '5' && b[1] != '6' {
		return api.Image{}, api.ErrForm
	}
	m := api.Image{C: 2*int(b[1]-'5') + 1}
	s := &shape{b: b[2:]}
	s.one(blanks)
	m.W = s.number(32768)
	s.one(blanks)
	m.H = s.number(32768)
	if m.W == 0 || m.H == 0 {
		s.fail(api.ErrSize)
	}
	if m.W*m.H > 1<<22 {
		s.fail(api.ErrLimit)
	}
	s.one(blanks)
	if s.number(255) != 255 {
		s.fail(api.ErrForm)
	}
	s.one(single)
	if len(s.b) < m.W*m.H*m.C {
		s.fail(api.ErrShort)
	}
	if len(s.b) > m.W*m.H*m.C {
		s.fail(api.ErrMore)
	}
	if s.e != api.OK {
		return api.Image{}, s.e
	}
	m.Pix = s.b
	return m, api.OK
}

// reads checks one Read against the reference, and that the bytes stay.
func reads(t *testing.T, b []byte) {
	t.Helper()
	kept := slices.Clone(b)
	want, code := reference(b)
	if m, e := pnm.Read(b); !alike(m, want) || e != code || !bytes.Equal(b, kept) {
		t.Fatalf("Read of %.80q: %d x %d x %d, %d bytes, %v; not %d x %d x %d, %v", b, m.W, m.H, m.C, len(m.Pix), e, want.W, want.H, want.C, code)
	}
}

func TestP15_1_Form(t *testing.T) {
	for _, head := range []string{
		"P5\n3 2\n255\n", "P5 3 2 255 ", "P5\t3\v2\f255\r", "P5\r\n3\r\n2\r\n255\n", "P5  \n 3 \t 2   255\t", "P5#\n3#\n2#\n255\n", "P5 # gray\n3 2 #\n#\n255 ",
		"P5 #3 2 255 \n3#2\n2\n#255 \n255\n", "P5\n#a\n#b\n\n3 #\xff\x00\n\n2 \t\n255\v", "P5#P6\r\n3#\r\n2 255\f",
	} {
		for _, pix := range []string{"abcdef", "\n\n\n\n\n\n", " #5\n\r\t", "\x00\xff\x80P5\n", "255255"} {
			m, e := pnm.Read([]byte(head + pix))
			if want := (api.Image{W: 3, H: 2, C: 1, Pix: []byte(pix)}); e != api.OK || !alike(m, want) {
				t.Errorf("Read of %q %q: %v %v", head, pix, m, e)
			}
			m, e = pnm.Read([]byte("P6" + head[2:] + pix + "#" + pix + "\n1234"))
			if want := (api.Image{W: 3, H: 2, C: 3, Pix: []byte(pix + "#" + pix + "\n1234")}); e != api.OK || !alike(m, want) {
				t.Errorf("Read of P6%q %q: %v %v", head[2:], pix, m, e)
			}
		}
	}
}

func TestP15_2_Codes(t *testing.T) {
	nought, nine := strings.Repeat("0", 400), strings.Repeat("9", 400)
	for _, c := range []struct {
		s    string
		want api.Errno
	}{
		// the first two bytes
		{"", api.ErrShort}, {"P", api.ErrShort}, {"p", api.ErrForm}, {"5", api.ErrForm}, {"B", api.ErrForm}, {"P4", api.ErrForm}, {"P7", api.ErrForm}, {"PP", api.ErrForm}, {"P 5", api.ErrForm},
		{" P5 1 1 255 x", api.ErrForm}, {"p5 1 1 255 x", api.ErrForm}, {"P2 1 1 255 1", api.ErrForm}, {"P3 1 1 255 1 1 1", api.ErrForm}, {"\nP5", api.ErrForm}, {"Q5", api.ErrForm}, {"P\xb5", api.ErrForm},
		// blanks
		{"P5", api.ErrShort}, {"P6", api.ErrShort}, {"P51 1 255 x", api.ErrForm}, {"P5x", api.ErrForm}, {"P5\x00", api.ErrForm}, {"P5 1", api.ErrShort}, {"P5 1x", api.ErrForm}, {"P5 1-1", api.ErrForm},
		{"P5 1 1", api.ErrShort}, {"P5 1 1x", api.ErrForm}, {"P5 1 1,255 x", api.ErrForm}, {"P5 \xa01 1 255 x", api.ErrForm},
		// the width
		{"P5 ", api.ErrShort}, {"P5 #1 1 255 x", api.ErrShort}, {"P5 x", api.ErrForm}, {"P5 -1 1 255 x", api.ErrForm}, {"P5 +1 1 255 x", api.ErrForm}, {"P5 01 1 255 x", api.ErrForm}, {"P5 00 1 255 x", api.ErrForm},
		{"P5 32769", api.ErrLimit}, {"P5 40000 1 255 ", api.ErrLimit}, {"P5 40000 0", api.ErrLimit}, {"P5 99999999999999999999 1 255 x", api.ErrLimit}, {"P5 18446744073709551617 1 255 x", api.ErrLimit}, {"P5 4294967297 1 255 x", api.ErrLimit},
		{"P5 " + nought + "1 1 255 x", api.ErrForm}, {"P5 " + nine, api.ErrLimit}, {"P5 0" + nine + " 1 255 x", api.ErrForm}, {"P5 40000x", api.ErrLimit},
		// the height
		{"P5 1 ", api.ErrShort}, {"P5 1 x", api.ErrForm}, {"P5 1 -1 255 x", api.ErrForm}, {"P5 1 01 255 x", api.ErrForm}, {"P5 1 32769", api.ErrLimit}, {"P5 0 32769", api.ErrLimit}, {"P5 0 x", api.ErrForm}, {"P5 0 ", api.ErrShort}, {"P5 0", api.ErrShort}, {"P5 0x", api.ErrForm},
		{"P5 1 " + nought + " 255 x", api.ErrForm}, {"P5 1 " + nine + " 255 x", api.ErrLimit}, {"P5 1 18446744073709551617 255 x", api.ErrLimit},
		// both
		{"P5 0 0", api.ErrSize}, {"P5 0 1", api.ErrSize}, {"P5 1 0", api.ErrSize}, {"P5 1 0x", api.ErrSize}, {"P5 0 5 256", api.ErrSize}, {"P5 32768 0 255 ", api.ErrSize}, {"P5 0 32768", api.ErrSize}, {"P6 0 1 255 ", api.ErrSize},
		{"P5 2049 2048", api.ErrLimit}, {"P5 2048 2049x", api.ErrLimit}, {"P5 32768 129 256", api.ErrLimit}, {"P5 129 32768 255 x", api.ErrLimit}, {"P5 32768 32768", api.ErrLimit}, {"P6 2049 2048 x", api.ErrLimit},
		{"P5 2048 2048", api.ErrShort}, {"P5 32768 128 255", api.ErrShort}, {"P5 128 32768 255 x", api.ErrShort}, {"P6 2048 2048 255 xyz", api.ErrShort}, {"P5 32768 1 255 x", api.ErrShort}, {"P6 1 32768 255 x", api.ErrShort},
		// 255
		{"P5 1 1 ", api.ErrShort}, {"P5 1 1 x", api.ErrForm}, {"P5 1 1 -255 x", api.ErrForm}, {"P5 1 1 254 x", api.ErrForm}, {"P5 1 1 0 x", api.ErrForm}, {"P5 1 1 1 x", api.ErrForm}, {"P5 1 1 2", api.ErrForm}, {"P5 1 1 25", api.ErrForm},
		{"P5 1 1 0255 x", api.ErrForm}, {"P5 1 1 00", api.ErrForm}, {"P5 1 1 256 x", api.ErrLimit}, {"P5 1 1 2550 x", api.ErrLimit}, {"P5 1 1 65535 xx", api.ErrLimit}, {"P5 1 1 18446744073709551871 x", api.ErrLimit}, {"P5 1 1 " + nine, api.ErrLimit},
		// one blank, no remark
		{"P5 1 1 255", api.ErrShort}, {"P5 1 1 255x", api.ErrForm}, {"P5 1 1 255#\nx", api.ErrForm}, {"P5 1 1 255#", api.ErrForm}, {"P5 1 1 255\x00x", api.ErrForm}, {"P5 1 1 255.", api.ErrForm},
		// the pixels
		{"P5 1 1 255 ", api.ErrShort}, {"P5 1 1 255 x", api.OK}, {"P5 1 1 255  ", api.OK}, {"P5 1 1 255 #", api.OK}, {"P5 1 1 255  x", api.ErrMore}, {"P5 1 1 255 x\n", api.ErrMore}, {"P5 1 1 255 #\nx", api.ErrMore}, {"P5 1 1 255 xP5 1 1 255 x", api.ErrMore},
		{"P6 1 1 255 xy", api.ErrShort}, {"P6 1 1 255 xyz", api.OK}, {"P6 1 1 255 xyzx", api.ErrMore}, {"P6 1 1 255 x", api.ErrShort}, {"P5 1 1 255 xyz", api.ErrMore},
	} {
		m, e := pnm.Read([]byte(c.s))
		if e != c.want || (e == api.OK) == alike(m, api.Image{}) {
			t.Errorf("Read of %.60q: %v %v, not %v", c.s, m, e, c.want)
		}
		reads(t, []byte(c.s))
	}
	if _, e := pnm.Read(nil); e != api.ErrShort {
		t.Errorf("Read of nil: %v", e)
	}
}

// Bytes that end anywhere, and bytes with more behind.
func TestP15_2_Ends(t *testing.T) {
	for _, m := range all() {
		b, _ := pnm.Write(m)
		for n := range len(b) {
			got, e := pnm.Read(b[:n])
			if want := api.ErrShort; e != want && !strings.HasSuffix(string(b[:n]), "\n2") && !strings.HasSuffix(string(b[:n]), "\n25") || !alike(got, api.Image{}) {
				t.Fatalf("Read of %d of %d bytes: %v", n, len(b), e)
			}
			reads(t, b[:n])
		}
		reads(t, b)
		for _, more := range []string{"\n", "\x00", "P5", strings.Repeat("x", 1000)} {
			if got, e := pnm.Read(append(slices.Clone(b), more...)); e != api.ErrMore || !alike(got, api.Image{}) {
				t.Fatalf("Read of %d bytes and %d more: %v", len(b), len(more), e)
			}
		}
	}
}

// Each byte of a head as each other one, without it, and twice.
func TestP15_2_EachByte(t *testing.T) {
	for _, s := range []string{"P5 #a\n12\t1 255 abcdefghijkl", "P6\n2 1\n255\nabcdef", "P5 1 1 255 5"} {
		for i := range len(s) {
			for v := range 256 {
				b := []byte(s)
				b[i] = byte(v)
				reads(t, b)
				reads(t, slices.Insert([]byte(s), i, byte(v)))
			}
			reads(t, slices.Delete([]byte(s), i, i+1))
		}
	}
}

// Sizes around the limits: of what is refused no room is taken.
func TestP15_2_Limits(t *testing.T) {
	for _, c := range []struct{ w, h, c int }{{32768, 128, 1}, {128, 32768, 3}, {2048, 2048, 1}, {2048, 2048, 3}, {32768, 1, 3}, {1, 32768, 1}} {
		want := api.Image{W: c.w, H: c.h, C: c.c, Pix: make([]byte, c.w*c.h*c.c)}
		for i := range want.Pix {
			want.Pix[i] = byte(i >> 7)
		}
		b, e := pnm.Write(want)
		if e != api.OK || len(b) != pnm.Size(c.w, c.h, c.c) {
			t.Fatalf("Write of %v: %d bytes, %v", c, len(b), e)
		}
		if m, e := pnm.Read(b); e != api.OK || !alike(m, want) {
			t.Errorf("Read of %v: %v", c, e)
		}
		if m, e := pnm.Read(b[:len(b)-1]); e != api.ErrShort || !alike(m, api.Image{}) {
			t.Errorf("Read of %v but one: %v", c, e)
		}
		if m, e := pnm.Read(append(b, 0)); e != api.ErrMore || !alike(m, api.Image{}) {
			t.Errorf("Read of %v and one: %v", c, e)
		}
	}
}

// room is how many bytes of memory a call takes.
func room(f func()) uint64 {
	var before, after runtime.MemStats
	runtime.ReadMemStats(&before)
	f()
	runtime.ReadMemStats(&after)
	return after.TotalAlloc - before.TotalAlloc
}

func TestP15_2_Room(t *testing.T) {
	for _, s := range []string{"P6 2048 2048 255 ", "P6 32768 128 255 x", "P6 2048 2048 255", "P6 32768 32768 255 ", "P6 2049 2048 255 x", "P6 99999999999 99999999999 255 x"} {
		if n := room(func() { _, _ = pnm.Read([]byte(s)) }); n > 1<<20 {
			t.Errorf("Read of %q takes %d bytes", s, n)
		}
	}
	long := append([]byte("P5 1500 1000 255 "), make([]byte, 1500*1000+1)...)
	if n := room(func() { _, _ = pnm.Read(long) }); n > 2<<20 { // a copy of what is read, and no more
		t.Errorf("Read of one byte too many takes %d bytes", n)
	}
}

func TestP15_3_Write(t *testing.T) {
	for _, m := range all() {
		kept := slices.Clone(m.Pix)
		want := fmt.Sprintf("P%d\n%d %d\n255\n%s", map[int]int{1: 5, 3: 6}[m.C], m.W, m.H, m.Pix)
		b, e := pnm.Write(m)
		if e != api.OK || string(b) != want || len(b) != pnm.Size(m.W, m.H, m.C) {
			t.Errorf("Write of %v: %q %v, not %q", m, b, e, want)
		}
		clear(b)
		if !bytes.Equal(m.Pix, kept) {
			t.Errorf("Write of %v shares memory", m)
		}
	}
}

func TestP15_3_WriteOfWrongOnes(t *testing.T) {
	for _, c := range []struct {
		m    api.Image
		want api.Errno
	}{
		{api.Image{}, api.ErrArg}, {api.Image{W: 1, H: 1, C: 2, Pix: make([]byte, 2)}, api.ErrArg}, {api.Image{W: 1, H: 1, C: -1}, api.ErrArg}, {api.Image{W: 40000, H: 1, C: 5}, api.ErrArg},
		{some(1, 1, 4), api.ErrArg}, {some(2, 3, 4), api.ErrArg}, {api.Image{W: 1, H: 1, C: 4}, api.ErrSize}, {api.Image{W: 0, H: 1, C: 4}, api.ErrSize}, {api.Image{W: 40000, H: 1, C: 4}, api.ErrLimit},
		{api.Image{W: 1, H: 1, C: 1}, api.ErrSize}, {api.Image{W: 1, H: 1, C: 3, Pix: make([]byte, 4)}, api.ErrSize}, {api.Image{W: -1, H: -1, C: 1, Pix: []byte{1}}, api.ErrSize},
		{api.Image{W: 32769, H: 1, C: 1, Pix: make([]byte, 32769)}, api.ErrLimit}, {api.Image{W: 2049, H: 2048, C: 1}, api.ErrLimit}, {api.Image{W: 40000, H: 0, C: 3}, api.ErrLimit},
	} {
		if b, e := pnm.Write(c.m); e != c.want || len(b) != 0 {
			t.Errorf("Write of %d x %d x %d, %d bytes: %q %v, not %v", c.m.W, c.m.H, c.m.C, len(c.m.Pix), b, e, c.want)
		}
	}
}

// numbers are ordinary ones, limits, those one past, and wrong ones.
var numbers = []int{math.MinInt, math.MinInt32, -32768, -1, 0, 1, 2, 3, 4, 5, 9, 10, 99, 100, 128, 129, 999, 1000, 2047, 2048, 2049, 32767, 32768, 32769, 65536, 1 << 31, 1 << 32, 1 << 62, math.MaxInt}

func TestP15_3_Head(t *testing.T) {
	for _, w := range numbers {
		for _, h := range numbers {
			for _, c := range numbers {
				want := ""
				switch c {
				case 1:
					want = fmt.Sprintf("P5\n%d %d\n255\n", w, h)
				case 3:
					want = fmt.Sprintf("P6\n%d %d\n255\n", w, h)
				}
				if s := pnm.Head(w, h, c); s != want {
					t.Fatalf("Head(%d, %d, %d): %q, not %q", w, h, c, s, want)
				}
			}
		}
	}
}

func TestP15_3_Size(t *testing.T) {
	for _, w := range numbers {
		for _, h := range numbers {
			for _, c := range numbers {
				want := 0
				if (c == 1 || c == 3) && 1 <= w && w <= 32768 && 1 <= h && h <= 32768 && w*h <= 1<<22 {
					want = len(fmt.Sprintf("P5\n%d %d\n255\n", w, h)) + w*h*c
				}
				if n := pnm.Size(w, h, c); n != want {
					t.Fatalf("Size(%d, %d, %d): %d, not %d", w, h, c, n, want)
				}
			}
		}
	}
	if n := room(func() { pnm.Size(2048, 2048, 3) }); n > 1<<20 {
		t.Errorf("Size takes %d bytes", n)
	}
}

func TestP15_4_ThereAndBack(t *testing.T) {
	for _, m := range all() {
		b, _ := pnm.Write(m)
		got, e := pnm.Read(b)
		if e != api.OK || !alike(got, m) {
			t.Errorf("Read of Write of %v: %v %v", m, got, e)
		}
		clear(b)
		if !alike(got, m) {
			t.Errorf("%v shares memory with what was read", m)
		}
		kept := fmt.Sprintf("P%d #\n%d %d\t255 %s", 4+(m.C+1)/2, m.W, m.H, m.Pix)
		b = []byte(kept)
		got, _ = pnm.Read(b)
		clear(got.Pix)
		_ = append(got.Pix, 1)
		if string(b) != kept {
			t.Errorf("what was read shares memory with %v", m)
		}
	}
	for _, s := range []string{"P5 1 1 255 x", "P5\n1\n1\n255\nx", "P6 #\n1 1 255 xyz", "P5#\n2#\n2#\n255 abcd", "P6\t\t10 1\r255\nabcdefghijabcdefghijabcdefghij"} {
		m, e := pnm.Read([]byte(s))
		b, e2 := pnm.Write(m)
		again, e3 := pnm.Read(b)
		if e != api.OK || e2 != api.OK || e3 != api.OK || len(b) > len(s) || !alike(again, m) {
			t.Errorf("%q: %v, written %q %v, again %v %v", s, e, b, e2, again, e3)
		}
	}
}

// P1 and P2: all end at all edges, and tell the same again, whatever was called between.
func TestP1_P2_TheSameAgain(t *testing.T) {
	l := append(all(), api.Image{}, some(2, 2, 4), api.Image{W: 1, H: 1, C: 1}, api.Image{W: 40000, H: 1, C: 3})
	told := func(i int) string {
		m := l[i%len(l)]
		b, e := pnm.Write(m)
		if i%3 > 0 && len(b) > 0 {
			b[i*7%len(b)] ^= byte(i)
		}
		n, e2 := pnm.Read(b)
		w, h, c := numbers[i%len(numbers)], numbers[i/3%len(numbers)], i%5
		return fmt.Sprint(b, e, n, e2, pnm.Head(w, h, c), pnm.Size(w, h, c))
	}
	var first []string
	for i := range 1500 {
		first = append(first, told(i))
	}
	for i := len(first) - 1; i >= 0; i-- {
		if again := told(i); again != first[i] {
			t.Fatalf("%d: %s, then %s", i, first[i], again)
		}
	}
}
