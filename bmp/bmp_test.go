package bmp_test

import (
	"bytes"
	"encoding/binary"
	"fmt"
	"math"
	"runtime"
	"slices"
	"testing"

	"anamorph/api"
	"anamorph/bmp"
)

// some is an image whose bytes all tell their place.
func some(w, h, c int) api.Image {
	m := api.Image{W: w, H: h, C: c}
	for i := range w * h * c {
		m.Pix = append(m.Pix, byte(i*37+9))
	}
	return m
}

// all are right images: one pixel, one row, one column, and others; rows with 0 to 3 filling bytes.
func all() []api.Image {
	var l []api.Image
	for _, s := range [][2]int{{1, 1}, {2, 1}, {5, 1}, {1, 4}, {2, 2}, {3, 2}, {4, 3}, {12, 10}, {1, 300}, {300, 1}} {
		l = append(l, some(s[0], s[1], 3), some(s[0], s[1], 4))
	}
	return append(l, api.Image{W: 1, H: 1, C: 3, Pix: []byte("BMP")}, api.Image{W: 2, H: 1, C: 4, Pix: []byte{0, 255, 0, 255, 255, 0, 255, 0}})
}

// alike tells whether two images are.
func alike(a, b api.Image) bool {
	return a.W == b.W && a.H == b.H && a.C == b.C && bytes.Equal(a.Pix, b.Pix)
}

// file is what a form is made of: its numbers, by where they stand, and what is behind the head.
type file struct {
	two  map[int]uint16
	four map[int]uint32
	rows []byte
}

// made is the form of an image, with the first row first, or last, and with a byte that fills.
func made(m api.Image, falls bool, fills byte) file {
	f := file{two: map[int]uint16{26: 1, 28: uint16(8 * m.C)}, four: map[int]uint32{10: 54, 14: 40, 18: uint32(m.W), 22: uint32(m.H)}}
	for i := range m.H {
		y := m.H - 1 - i
		if falls {
			y = i
		}
		for x := range m.W {
			p := m.Pix[(y*m.W+x)*m.C:][:m.C]
			f.rows = append(f.rows, p[2], p[1], p[0])
			f.rows = append(f.rows, p[3:]...)
		}
		for len(f.rows)%4 != 0 {
			f.rows = append(f.rows, fills)
		}
	}
	if falls {
		f.four[22] = uint32(-m.H)
	}
	f.four[2] = uint32(54 + len(f.rows))
	return f
}

// bytes is the form as bytes.
func (f file) bytes() []byte {
	b := make([]byte, 54)
	copy(b, "BM")
	for at, x := range f.two {
		binary.LittleEndian.PutUint16(b[at:], x)
	}
	for at, x := range f.four {
		binary.LittleEndian.PutUint32(b[at:], x)
	}
	return append(b, f.rows...)
}

// reference is what Read must tell.
func reference(b []byte) (api.Image, api.Errno) {
	none := api.Image{}
	if len(b) == 0 || len(b) == 1 && b[0] == 'B' {
		return none, api.ErrShort
	}
	if len(b) == 1 || string(b[:2]) != "BM" {
		return none, api.ErrForm
	}
	if len(b) < 54 {
		return none, api.ErrShort
	}
	four := func(at int) int64 { return int64(binary.LittleEndian.Uint32(b[at:])) }
	two := func(at int) int64 { return int64(binary.LittleEndian.Uint16(b[at:])) }
	if four(6) != 0 || four(10) != 54 || four(14) != 40 || two(26) != 1 || two(28) != 24 && two(28) != 32 || four(30) != 0 || four(46) != 0 || four(50) != 0 {
		return none, api.ErrForm
	}
	w, h, c, falls := four(18), four(22), two(28)/8, false
	if h >= 1<<31 {
		h, falls = 1<<32-h, true
	}
	if w == 0 || h == 0 {
		return none, api.ErrSize
	}
	if w > 32768 || h > 32768 || w*h > 1<<22 {
		return none, api.ErrLimit
	}
	stride := w * c
	for stride%4 > 0 {
		stride++
	}
	rows := b[54:]
	if int64(len(rows)) < stride*h {
		return none, api.ErrShort
	}
	if int64(len(rows)) > stride*h {
		return none, api.ErrMore
	}
	if four(2) != int64(len(b)) || four(34) != 0 && four(34) != int64(len(rows)) {
		return none, api.ErrForm
	}
	m := api.Image{W: int(w), H: int(h), C: int(c)}
	for y := range h {
		at := y * stride
		if !falls {
			at = (h - 1 - y) * stride
		}
		for range w {
			m.Pix = append(m.Pix, rows[at+2], rows[at+1], rows[at])
			m.Pix = append(m.Pix, rows[at+3:at+c]...)
			at += c
		}
	}
	return m, api.OK
}

// reads checks one Read against the reference, and that the bytes stay.
func reads(t *testing.T, b []byte) api.Errno {
	t.Helper()
	kept := slices.Clone(b)
	want, code := reference(b)
	m, e := bmp.Read(b)
	if !alike(m, want) || e != code || !bytes.Equal(b, kept) {
		t.Fatalf("Read of %.99q: %d x %d x %d, %v; not %d x %d x %d, %v", b, m.W, m.H, m.C, e, want.W, want.H, want.C, code)
	}
	return e
}

// codes checks that bytes are read with a code, as the reference tells it, too.
func codes(t *testing.T, what string, b []byte, want api.Errno) {
	t.Helper()
	if e := reads(t, b); e != want {
		t.Errorf("%s: %v, not %v", what, e, want)
	}
}

func TestP16_1_Form(t *testing.T) {
	for _, m := range all() {
		for _, falls := range []bool{false, true} {
			for _, fills := range []byte{0, 1, 255} {
				f := made(m, falls, fills)
				for _, behind := range []int{0, len(f.rows)} {
					for _, free := range []uint32{0, 1, 2835, 1 << 31, math.MaxUint32} {
						f.four[34], f.four[38], f.four[42] = uint32(behind), free, free/3
						if got, e := bmp.Read(f.bytes()); e != api.OK || !alike(got, m) {
							t.Fatalf("Read of %v, %v, %d: %v %v", m, falls, fills, got, e)
						}
						reads(t, f.bytes())
					}
				}
			}
		}
	}
}

// The form by hand: two rows, the last one first, with one filling byte; then the first one first.
func TestP16_1_ByHand(t *testing.T) {
	b := []byte("BM\x46\x00\x00\x00\x00\x00\x00\x00\x36\x00\x00\x00\x28\x00\x00\x00\x01\x00\x00\x00\x02\x00\x00\x00\x01\x00\x20\x00\x00\x00\x00\x00\x00\x00\x00\x00\x13\x0b\x00\x00\x13\x0b\x00\x00\x00\x00\x00\x00\x00\x00\x00\x00abcdABCD")
	b[2] = byte(len(b))
	if m, e := bmp.Read(b); e != api.OK || !alike(m, api.Image{W: 1, H: 2, C: 4, Pix: []byte("CBADcbad")}) {
		t.Errorf("32 bits: %v %v", m, e)
	}
	b[28] = 24
	if m, e := bmp.Read(b); e != api.OK || !alike(m, api.Image{W: 1, H: 2, C: 3, Pix: []byte("CBAcba")}) {
		t.Errorf("24 bits: %v %v", m, e)
	}
	copy(b[22:], "\xfe\xff\xff\xff")
	if m, e := bmp.Read(b); e != api.OK || !alike(m, api.Image{W: 1, H: 2, C: 3, Pix: []byte("cbaCBA")}) {
		t.Errorf("the first row first: %v %v", m, e)
	}
}

func TestP16_2_FirstBytes(t *testing.T) {
	codes(t, "nothing", nil, api.ErrShort)
	codes(t, "nothing", []byte{}, api.ErrShort)
	for a := range 256 {
		want := api.ErrForm
		if a == 'B' {
			want = api.ErrShort
		}
		codes(t, "one byte", []byte{byte(a)}, want)
		for b := range 256 {
			want := api.ErrForm
			if a == 'B' && b == 'M' {
				want = api.ErrShort
			}
			codes(t, "two bytes", []byte{byte(a), byte(b)}, want)
		}
	}
	b := made(some(2, 2, 3), false, 0).bytes()
	for _, s := range []string{"MB", "bm", "Bm", "B ", "P6", "\x00M"} {
		copy(b, s)
		codes(t, s, b, api.ErrForm)
	}
}

// Bytes that end anywhere, and bytes with more behind.
func TestP16_2_Ends(t *testing.T) {
	for _, m := range all() {
		for _, falls := range []bool{false, true} {
			b := made(m, falls, 7).bytes()
			for n := range len(b) {
				codes(t, fmt.Sprintf("%d of %d bytes", n, len(b)), b[:n], api.ErrShort)
			}
			codes(t, "all", b, api.OK)
			for _, more := range []string{"\x00", "1234", "BM", string(b)} {
				codes(t, fmt.Sprintf("%d bytes, %d more", len(b), len(more)), append(slices.Clone(b), more...), api.ErrMore)
			}
		}
	}
	// bytes that end in the head come ahead of all that is wrong in it
	for _, at := range []int{2, 6, 10, 14, 18, 22, 26, 28, 30, 34, 46, 50} {
		f := made(some(1, 1, 3), false, 0)
		f.rows = nil
		b := f.bytes()
		b[at] ^= 255
		codes(t, "a head but one byte", b[:53], api.ErrShort)
	}
}

func TestP16_2_NumbersThatMustBe(t *testing.T) {
	for _, m := range []api.Image{some(3, 2, 3), some(3, 2, 4)} {
		for _, at := range []int{6, 10, 14, 30, 46, 50} {
			f := made(m, false, 0)
			was := f.four[at]
			for _, x := range []uint32{0, 1, 12, 39, 40, 41, 53, 54, 55, 124, 256, 1 << 16, 1 << 24, 1 << 31, math.MaxUint32, was + 1<<8, was + 1<<16, was + 1<<24} {
				if x != was {
					f.four[at] = x
					codes(t, fmt.Sprintf("%d at %d", x, at), f.bytes(), api.ErrForm)
				}
			}
		}
		for _, at := range []int{26, 28} {
			f := made(m, false, 0)
			for _, x := range []uint16{0, 1, 2, 4, 8, 16, 23, 25, 31, 33, 48, 64, 256 + 1, 256 + 24, 256 + 32, 1 << 15, math.MaxUint16} {
				if at != 26 || x != 1 {
					f.two[at] = x
					codes(t, fmt.Sprintf("%d at %d", x, at), f.bytes(), api.ErrForm)
				}
			}
		}
	}
}

// Of several errors the first one counts.
func TestP16_2_WhichFirst(t *testing.T) {
	for _, c := range []struct {
		what string
		do   func(f *file)
		want api.Errno
	}{
		{"a wrong number and no size", func(f *file) { f.four[6], f.four[18] = 1, 0 }, api.ErrForm},
		{"a wrong number at the end and a size above the limit", func(f *file) { f.four[50], f.four[22] = 1, 40000 }, api.ErrForm},
		{"wrong bits and too few bytes", func(f *file) { f.two[28], f.rows = 16, f.rows[1:] }, api.ErrForm},
		{"a wrong number and more bytes", func(f *file) { f.four[14], f.rows = 41, append(f.rows, 1) }, api.ErrForm},
		{"no size and one above the limit", func(f *file) { f.four[18], f.four[22] = 0, 40000 }, api.ErrSize},
		{"one above the limit and no size", func(f *file) { f.four[18], f.four[22] = math.MaxUint32, 0 }, api.ErrSize},
		{"no size and too few bytes", func(f *file) { f.four[18], f.rows = 0, nil }, api.ErrSize},
		{"no size and more bytes", func(f *file) { f.four[22] = 0 }, api.ErrSize},
		{"a size above the limit and too few bytes", func(f *file) { f.four[18], f.rows = 32769, nil }, api.ErrLimit},
		{"too few bytes, and told so", func(f *file) { f.rows = f.rows[1:]; f.four[2]-- }, api.ErrShort},
		{"too few bytes, and a wrong number at 34", func(f *file) { f.rows, f.four[34] = f.rows[1:], 5 }, api.ErrShort},
		{"more bytes, and told so", func(f *file) { f.rows = append(f.rows, 1); f.four[2]++ }, api.ErrMore},
		{"more bytes, and a wrong number at 2", func(f *file) { f.rows, f.four[2] = append(f.rows, 1), 5 }, api.ErrMore},
	} {
		for _, m := range []api.Image{some(3, 2, 3), some(3, 2, 4)} {
			f := made(m, false, 0)
			c.do(&f)
			codes(t, c.what, f.bytes(), c.want)
		}
	}
}

func TestP16_2_Sizes(t *testing.T) {
	for _, c := range []struct {
		w, h uint32
		want api.Errno
	}{
		{0, 0, api.ErrSize}, {0, 1, api.ErrSize}, {1, 0, api.ErrSize}, {0, math.MaxUint32, api.ErrSize}, {math.MaxUint32, 0, api.ErrSize}, {0, 1 << 31, api.ErrSize},
		{32769, 1, api.ErrLimit}, {1, 32769, api.ErrLimit}, {1, ^uint32(32769) + 1, api.ErrLimit}, {1 << 31, 1, api.ErrLimit}, {math.MaxUint32, 1, api.ErrLimit}, {1<<31 - 1, 1, api.ErrLimit}, {1, 1 << 31, api.ErrLimit}, {1, 1<<31 - 1, api.ErrLimit}, {1, 1<<31 + 1, api.ErrLimit},
		{2049, 2048, api.ErrLimit}, {2048, 2049, api.ErrLimit}, {2048, ^uint32(2049) + 1, api.ErrLimit}, {32768, 129, api.ErrLimit}, {129, 32768, api.ErrLimit}, {32768, 32768, api.ErrLimit}, {65536, 65536, api.ErrLimit}, {1 << 31, 2, api.ErrLimit}, {65537, 65535, api.ErrLimit}, {1 << 30, 4, api.ErrLimit}, {1 << 16, 1 << 31, api.ErrLimit},
		{2048, 2048, api.ErrShort}, {2048, ^uint32(2048) + 1, api.ErrShort}, {32768, 128, api.ErrShort}, {128, 32768, api.ErrShort}, {128, ^uint32(32768) + 1, api.ErrShort}, {32768, 1, api.ErrShort}, {1, 32768, api.ErrShort},
	} {
		for _, bits := range []uint16{24, 32} {
			f := made(some(1, 1, 3), false, 0)
			f.two[28], f.four[18], f.four[22], f.rows = bits, c.w, c.h, nil
			codes(t, fmt.Sprintf("%d x %d", c.w, c.h), f.bytes(), c.want)
		}
	}
}

func TestP16_2_Counts(t *testing.T) {
	for _, m := range all()[:10] {
		n := made(m, false, 0)
		rows := uint32(len(n.rows))
		for _, x := range []uint32{0, 1, rows - 1, rows, rows + 1, rows + 53, rows + 54, rows + 55, rows + 54 + 256, rows + 1<<16, rows + 54 + 1<<24, 1 << 31, math.MaxUint32} {
			f := made(m, false, 0)
			f.four[2] = x
			want := api.ErrForm
			if x == rows+54 {
				want = api.OK
			}
			codes(t, fmt.Sprintf("%d at 2", x), f.bytes(), want)
			f = made(m, true, 0)
			f.four[34] = x
			want = api.ErrForm
			if x == 0 || x == rows {
				want = api.OK
			}
			codes(t, fmt.Sprintf("%d at 34", x), f.bytes(), want)
		}
	}
}

// Each byte as each other one.
func TestP16_2_EachByte(t *testing.T) {
	for _, f := range []file{made(some(3, 2, 3), false, 9), made(some(2, 2, 4), true, 0), made(some(1, 1, 3), true, 0)} {
		b := f.bytes()
		for i := range b {
			was := b[i]
			for v := range 256 {
				b[i] = byte(v)
				reads(t, b)
			}
			b[i] = was
		}
	}
}

// room is how many bytes of memory a call takes.
func room(f func()) uint64 {
	var before, after runtime.MemStats
	runtime.ReadMemStats(&before)
	f()
	runtime.ReadMemStats(&after)
	return after.TotalAlloc - before.TotalAlloc
}

// Of what is refused no room is taken.
func TestP16_2_Room(t *testing.T) {
	for _, s := range [][2]uint32{{2048, 2048}, {32768, 128}, {1, 32768}, {32768, 32768}, {math.MaxUint32, math.MaxUint32}, {1 << 16, 1 << 16}} {
		f := made(some(1, 1, 4), false, 0)
		f.four[18], f.four[22] = s[0], s[1]
		b := f.bytes()
		if n := room(func() { _, _ = bmp.Read(b) }); n > 1<<20 {
			t.Errorf("Read of %v takes %d bytes", s, n)
		}
	}
	b := append(made(some(1000, 500, 3), false, 0).bytes(), 0)
	if n := room(func() { _, _ = bmp.Read(b) }); n > 2<<20 { // a copy of what is read, and no more
		t.Errorf("Read of one byte too many takes %d bytes", n)
	}
}

// Images at the limits, there and back.
func TestP16_2_P16_3_Limits(t *testing.T) {
	for _, s := range [][3]int{{32768, 128, 3}, {128, 32768, 4}, {2048, 2048, 3}, {2048, 2048, 4}, {1, 32768, 3}, {32767, 1, 3}, {32768, 1, 4}} {
		want := some(s[0], s[1], s[2])
		b, e := bmp.Write(want)
		if e != api.OK || len(b) != bmp.Size(s[0], s[1], s[2]) || len(b) != 54+s[1]*bmp.Stride(s[0], s[2]) {
			t.Fatalf("Write of %v: %d bytes, %v", s, len(b), e)
		}
		if m, e := bmp.Read(b); e != api.OK || !alike(m, want) {
			t.Errorf("Read of %v: %v", s, e)
		}
		if m, e := bmp.Read(b[:len(b)-1]); e != api.ErrShort || !alike(m, api.Image{}) {
			t.Errorf("Read of %v but one byte: %v", s, e)
		}
		if m, e := bmp.Read(append(b, 0)); e != api.ErrMore || !alike(m, api.Image{}) {
			t.Errorf("Read of %v and one byte: %v", s, e)
		}
	}
}

func TestP16_3_Write(t *testing.T) {
	for _, m := range all() {
		kept := slices.Clone(m.Pix)
		b, e := bmp.Write(m)
		if want := made(m, false, 0).bytes(); e != api.OK || !bytes.Equal(b, want) || len(b) != bmp.Size(m.W, m.H, m.C) {
			t.Errorf("Write of %v: %v %v, not %v", m, b, e, want)
		}
		clear(b)
		if !bytes.Equal(m.Pix, kept) {
			t.Errorf("Write of %v shares memory", m)
		}
	}
}

func TestP16_3_WriteOfWrongOnes(t *testing.T) {
	for _, c := range []struct {
		m    api.Image
		want api.Errno
	}{
		{api.Image{}, api.ErrArg}, {api.Image{W: 1, H: 1, C: 2, Pix: make([]byte, 2)}, api.ErrArg}, {api.Image{W: 1, H: 1, C: -1}, api.ErrArg}, {api.Image{W: 40000, H: 1, C: 5}, api.ErrArg},
		{some(1, 1, 1), api.ErrArg}, {some(2, 3, 1), api.ErrArg}, {api.Image{W: 1, H: 1, C: 1}, api.ErrSize}, {api.Image{W: 0, H: 1, C: 1}, api.ErrSize}, {api.Image{W: 40000, H: 1, C: 1}, api.ErrLimit},
		{api.Image{W: 1, H: 1, C: 4}, api.ErrSize}, {api.Image{W: 1, H: 1, C: 3, Pix: make([]byte, 4)}, api.ErrSize}, {api.Image{W: -1, H: -1, C: 3, Pix: make([]byte, 3)}, api.ErrSize},
		{api.Image{W: 32769, H: 1, C: 3, Pix: make([]byte, 3*32769)}, api.ErrLimit}, {api.Image{W: 2049, H: 2048, C: 4}, api.ErrLimit}, {api.Image{W: 40000, H: 0, C: 3}, api.ErrLimit},
	} {
		if b, e := bmp.Write(c.m); e != c.want || len(b) != 0 {
			t.Errorf("Write of %d x %d x %d, %d bytes: %v %v, not %v", c.m.W, c.m.H, c.m.C, len(c.m.Pix), b, e, c.want)
		}
	}
}

// numbers are ordinary ones, limits, those one past, and wrong ones.
var numbers = []int{math.MinInt, math.MinInt32, -32768, -1, 0, 1, 2, 3, 4, 5, 6, 7, 8, 99, 128, 129, 2047, 2048, 2049, 32766, 32767, 32768, 32769, 65536, 1 << 31, 1 << 32, 1 << 62, math.MaxInt}

func TestP16_3_Stride(t *testing.T) {
	for _, w := range numbers {
		for _, c := range numbers {
			want := 0
			if (c == 3 || c == 4) && 1 <= w && w <= 32768 {
				for want = w * c; want%4 != 0; {
					want++
				}
			}
			if n := bmp.Stride(w, c); n != want {
				t.Errorf("Stride(%d, %d): %d, not %d", w, c, n, want)
			}
		}
	}
	for i, want := range []int{4, 8, 12, 12, 16, 20, 24, 24} {
		if n := bmp.Stride(i+1, 3); n != want {
			t.Errorf("Stride(%d, 3): %d, not %d", i+1, n, want)
		}
	}
}

func TestP16_3_Size(t *testing.T) {
	for _, w := range numbers {
		for _, h := range numbers {
			for _, c := range numbers {
				want := 0
				if (c == 3 || c == 4) && 1 <= w && w <= 32768 && 1 <= h && h <= 32768 && w*h <= 1<<22 {
					want = 54 + (w*c+3)/4*4*h
				}
				if n := bmp.Size(w, h, c); n != want {
					t.Fatalf("Size(%d, %d, %d): %d, not %d", w, h, c, n, want)
				}
			}
		}
	}
	if bmp.Stride(3, 3) != 12 || bmp.Size(3, 2, 3) != 78 {
		t.Error("the examples")
	}
	if n := room(func() { bmp.Size(2048, 2048, 4) }); n > 1<<20 {
		t.Errorf("Size takes %d bytes", n)
	}
}

func TestP16_4_ThereAndBack(t *testing.T) {
	for _, m := range all() {
		b, _ := bmp.Write(m)
		got, e := bmp.Read(b)
		if e != api.OK || !alike(got, m) {
			t.Errorf("Read of Write of %v: %v %v", m, got, e)
		}
		clear(b)
		if !alike(got, m) {
			t.Errorf("%v shares memory with what was read", m)
		}
		for _, falls := range []bool{false, true} {
			f := made(m, falls, 77)
			f.four[34], f.four[38], f.four[42] = uint32(len(f.rows)), 3, 4
			b := f.bytes()
			once, e := bmp.Read(b)
			written, e2 := bmp.Write(once)
			twice, e3 := bmp.Read(written)
			if e != api.OK || e2 != api.OK || e3 != api.OK || !alike(once, twice) || !alike(once, m) {
				t.Errorf("Read of %v: %v %v, again %v %v %v", m, once, e, twice, e2, e3)
			}
			clear(once.Pix)
			if !bytes.Equal(b, f.bytes()) {
				t.Errorf("what was read shares memory with %v", m)
			}
		}
	}
}

// P1 and P2: all end at all edges, and tell the same again, whatever was called between.
func TestP1_P2_TheSameAgain(t *testing.T) {
	l := append(all()[:14], api.Image{}, some(2, 2, 1), api.Image{W: 1, H: 1, C: 3}, api.Image{W: 40000, H: 1, C: 4})
	told := func(i int) string {
		m := l[i%len(l)]
		b, e := bmp.Write(m)
		if i%3 > 0 && len(b) > 0 {
			b[i*7%len(b)] ^= byte(i)
		}
		n, e2 := bmp.Read(b)
		w, h, c := numbers[i%len(numbers)], numbers[i/3%len(numbers)], i%5
		return fmt.Sprint(b, e, n, e2, bmp.Stride(w, c), bmp.Size(w, h, c))
	}
	var first []string
	for i := range 1500 {
		first = append(first, told(i))
	}
	for i := len(first) - 1; i >= 0; i-- {
		if again := told(i); again != first[i] {
			t.Fatalf("%d: %s, then %s", i, first[i], again)
		}
	}
}
