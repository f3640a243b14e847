package hash_test

import (
	"fmt"
	"hash/fnv"
	"math"
	"math/big"
	"strings"
	"testing"

	"anamorph/api"
	"anamorph/hash"
)

// rows are rows of bytes: none, one, many, all values.
func rows() [][]byte {
	l := [][]byte{nil, {}, {0}, {0, 0}, {1}, {255}, []byte("a"), []byte("foobar"), []byte("anamorph")}
	var long []byte
	for i := range 1000 {
		long = append(long, byte(i*i/7))
	}
	return append(l, long, make([]byte, 300))
}

// digest is Bytes, reckoned in numbers of any size.
func digest(b []byte) uint64 {
	x, _ := new(big.Int).SetString("14695981039346656037", 10)
	factor, _ := new(big.Int).SetString("1099511628211", 10)
	room := new(big.Int).Lsh(big.NewInt(1), 64)
	for _, v := range b {
		x.Xor(x, big.NewInt(int64(v)))
		x.Mul(x, factor).Mod(x, room)
	}
	return x.Uint64()
}

func TestP12_1_Bytes(t *testing.T) {
	for _, b := range rows() {
		if x := hash.Bytes(b); x != digest(b) {
			t.Errorf("Bytes(%q): %d, not %d", b, x, digest(b))
		}
		f := fnv.New64a()
		f.Write(b)
		if x := hash.Bytes(b); x != f.Sum64() {
			t.Errorf("Bytes(%q): %d, not %d", b, x, f.Sum64())
		}
	}
	for s, want := range map[string]uint64{"": 0xcbf29ce484222325, "a": 0xaf63dc4c8601ec8c, "foobar": 0x85944171f73967e8} {
		if x := hash.Bytes([]byte(s)); x != want {
			t.Errorf("Bytes(%q): %x, not %x", s, x, want)
		}
	}
}

func TestP12_1_Sum(t *testing.T) {
	for _, s := range []*hash.Sum{hash.New(), {}, new(hash.Sum)} {
		if s == nil || s.Sum() != digest(nil) || s.Len() != 0 {
			t.Fatal("a new one isn't that of no bytes")
		}
		var came []byte
		for _, b := range rows() {
			s.Write(b)
			came = append(came, b...)
			if s.Sum() != digest(came) || s.Len() != len(came) {
				t.Fatalf("behind %d bytes: %d %d, not %d", len(came), s.Sum(), s.Len(), digest(came))
			}
			if s.Sum() != digest(came) || s.Len() != len(came) {
				t.Fatalf("asked twice behind %d bytes: %d %d", len(came), s.Sum(), s.Len())
			}
		}
	}
	a, b := hash.New(), hash.New()
	a.Write([]byte{1})
	if b.Sum() != digest(nil) || b.Len() != 0 {
		t.Error("two new ones are one")
	}
	b.Write(nil)
	if *b != *hash.New() || *b != (hash.Sum{}) {
		t.Error("no bytes change something")
	}
}

func TestP12_1_Nil(t *testing.T) {
	var s *hash.Sum
	s.Write([]byte{1, 2, 3})
	s.Write(nil)
	if s.Sum() != digest(nil) || s.Len() != 0 {
		t.Errorf("nil: %d %d", s.Sum(), s.Len())
	}
}

// What comes isn't kept, nor changed.
func TestP12_1_Memory(t *testing.T) {
	b := []byte{1, 2, 3}
	s := hash.New()
	s.Write(b)
	if b[0] != 1 || b[1] != 2 || b[2] != 3 {
		t.Error(b)
	}
	clear(b)
	if s.Sum() != digest([]byte{1, 2, 3}) {
		t.Error("the bytes are kept")
	}
}

func TestP12_2_Image(t *testing.T) {
	numbers := []int{0, 1, 2, 3, 4, 255, 256, 65537, 32768, 1<<31 - 1, 1 << 31, 1<<32 - 1, 1 << 32, 1<<32 + 5, -1, -256, -1 << 31, math.MinInt, math.MaxInt}
	for i, w := range numbers {
		for k, h := range numbers {
			m := api.Image{W: w, H: h, C: numbers[(3*i+k)%len(numbers)], Pix: rows()[(i+k)%len(rows())]}
			var b []byte
			for _, x := range []int{m.W, m.H, m.C} {
				n := new(big.Int).Mod(big.NewInt(int64(x)), big.NewInt(1<<32)).Uint64()
				for range 4 {
					b = append(b, byte(n%256))
					n /= 256
				}
			}
			if x := hash.Image(m); x != digest(append(b, m.Pix...)) {
				t.Errorf("Image of %d x %d x %d: %d", m.W, m.H, m.C, x)
			}
		}
	}
	m := api.Image{W: 1, H: 258, C: 3, Pix: []byte{9, 8}}
	if x := hash.Image(m); x != digest([]byte{1, 0, 0, 0, 2, 1, 0, 0, 3, 0, 0, 0, 9, 8}) {
		t.Errorf("Image by hand: %d", x)
	}
	if hash.Image(api.Image{W: 2, H: 3, C: 1, Pix: make([]byte, 6)}) == hash.Image(api.Image{W: 3, H: 2, C: 1, Pix: make([]byte, 6)}) {
		t.Error("sizes don't count")
	}
}

func TestP12_3_Texts(t *testing.T) {
	l := []uint64{0, 1, 9, 10, 15, 16, 255, 0x123456789abcdef0, 0xfedcba9876543210, 1 << 63, math.MaxUint64, math.MaxUint64 - 1, digest(nil)}
	for i := range 64 {
		l = append(l, 1<<i, 1<<i-1, 0xa5a5a5a5a5a5a5a5>>i)
	}
	for _, x := range l {
		s := hash.Hex(x)
		if s != fmt.Sprintf("%016x", x) {
			t.Errorf("Hex(%d): %q", x, s)
		}
		if y, is := hash.Read(s); y != x || !is {
			t.Errorf("Read(%q): %d %v", s, y, is)
		}
	}
	if s := hash.Hex(hash.Bytes(nil)); s != "cbf29ce484222325" {
		t.Errorf("the example: %q", s)
	}
	for _, s := range []string{
		"", "0", "cbf29ce48422232", "cbf29ce4842223255", "0cbf29ce484222325", "CBF29CE484222325", "cbf29ce48422232g", "gbf29ce484222325", "cbf29ce4_4222325",
		" bf29ce484222325", "cbf29ce48422232 ", "cbf29ce484222325\n", "+bf29ce484222325", "-bf29ce484222325", "0x29ce4842223250", "cbf29ce48422232é", "\x00bf29ce484222325",
		strings.Repeat("0", 15), strings.Repeat("0", 17), strings.Repeat("f", 32), strings.Repeat("/", 16), strings.Repeat(":", 16), strings.Repeat("`", 16), strings.Repeat("é", 8), strings.Repeat("\xff", 16),
	} {
		if x, is := hash.Read(s); x != 0 || is {
			t.Errorf("Read(%q): %d %v", s, x, is)
		}
	}
	for v := range 256 {
		for at := range 16 {
			b := []byte("0123456789abcdef")
			b[at] = byte(v)
			_, is := hash.Read(string(b))
			if want := '0' <= v && v <= '9' || 'a' <= v && v <= 'f'; is != want {
				t.Errorf("Read(%q): %v", b, is)
			}
		}
	}
}

func TestP12_4_Pieces(t *testing.T) {
	for _, b := range rows() {
		for size := 1; size <= len(b)+1; size += 1 + size/3 {
			s := hash.New()
			for from := 0; from < len(b); from += size {
				s.Write(b[from:min(from+size, len(b))])
				s.Write(nil)
			}
			if s.Sum() != hash.Bytes(b) || s.Len() != len(b) {
				t.Errorf("%d bytes in pieces of %d: %d %d", len(b), size, s.Sum(), s.Len())
			}
		}
	}
}

func TestP12_4_OneByte(t *testing.T) {
	for _, b := range rows() {
		x := hash.Bytes(b)
		for at := 0; at < len(b); at += 1 + at/9 {
			for d := 1; d < 256; d++ {
				b[at] ^= byte(d)
				if hash.Bytes(b) == x {
					t.Errorf("%d bytes, byte %d: the same", len(b), at)
				}
				b[at] ^= byte(d)
			}
		}
	}
}

// every is what all calls tell.
func every(b []byte, n int) string {
	s := hash.New()
	s.Write(b)
	x := hash.Image(api.Image{W: n, H: -n, C: len(b), Pix: b})
	y, is := hash.Read(string(b))
	return fmt.Sprint(hash.Bytes(b), s.Sum(), s.Len(), x, hash.Hex(x), y, is)
}

// P1 and P2: all end at all edges, and tell the same again, whatever was called between.
func TestP1_P2_TheSameAgain(t *testing.T) {
	l := append(rows(), []byte("cbf29ce484222325"), []byte("cbf29ce48422232g"))
	numbers := []int{0, 1, -1, math.MinInt, math.MaxInt, 1 << 40}
	var first []string
	for i, b := range l {
		first = append(first, every(b, numbers[i%len(numbers)]))
	}
	for i := len(l) - 1; i >= 0; i-- {
		if again := every(l[i], numbers[i%len(numbers)]); again != first[i] {
			t.Fatalf("%q: %s, then %s", l[i], first[i], again)
		}
	}
}
