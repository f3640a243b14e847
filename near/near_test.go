package near_test

import (
	"bytes"
	"fmt"
	"math"
	"math/big"
	"slices"
	"testing"

	"anamorph/api"
	"anamorph/near"
)

const (
	one = 65536
	far = 1 << 46
)

var color = [4]byte{201, 17, 0, 255}

// borders are of each mode.
func borders() []api.Border {
	return []api.Border{{Mode: api.Const, Color: color}, {Mode: api.Clamp, Color: color}, {Mode: api.Wrap}, {Mode: api.Mirror, Color: color}}
}

// some is an image whose bytes differ, and go up and down.
func some(w, h, c int) api.Image {
	m := api.Image{W: w, H: h, C: c}
	for i := range w * h * c {
		m.Pix = append(m.Pix, byte(i*i*7+i*61+3))
	}
	return m
}

// all are images of one pixel, one row, one column, and others.
func all() []api.Image {
	var l []api.Image
	for _, s := range [][2]int{{1, 1}, {4, 1}, {1, 3}, {2, 2}, {5, 4}} {
		for _, c := range []int{1, 3, 4} {
			l = append(l, some(s[0], s[1], c))
		}
	}
	return l
}

// bad is an image that isn't right, and its code.
type bad struct {
	m    api.Image
	want api.Errno
}

func wrong() []bad {
	return []bad{
		{api.Image{}, api.ErrArg}, {api.Image{W: 1, H: 1, C: 2, Pix: []byte{1, 2}}, api.ErrArg},
		{api.Image{W: 40000, H: 0, C: 1}, api.ErrLimit}, {api.Image{W: 2049, H: 2048, C: 1}, api.ErrLimit},
		{api.Image{W: 1, H: 1, C: 1}, api.ErrSize}, {api.Image{W: 0, H: 1, C: 1}, api.ErrSize},
		{api.Image{W: 1, H: 1, C: 1, Pix: []byte{1, 2}}, api.ErrSize},
	}
}

// beyond are numbers that lie further from 0 than a place may.
var beyond = []int64{far + 1, -far - 1, 2 * far, 1 << 62, -1 << 62, math.MinInt64, math.MinInt64 + 1, math.MaxInt64 - 1, math.MaxInt64}

// ends are places as far away as may be.
var ends = []int64{far, -far, far - 1, 1 - far, far - 32768, 32768 - far, far - 32769, far - 65535, 65537 - far, far - 70000}

// places are such around the pixels from -7 to 9: at their middles, between two, and beside.
func places() []int64 {
	var l []int64
	for n := int64(-7); n <= 9; n++ {
		for _, f := range []int64{0, 1, 255, 256, 16384, 20000, 32767, 32768, 32769, 49152, 65535} {
			l = append(l, n*one+f)
		}
	}
	return l
}

// index is which of n things stands at a place; -1: none.
func index(mode int, i int64, n int) int {
	if 0 <= i && i < int64(n) {
		return int(i)
	}
	whole := new(big.Int)
	switch mode {
	case api.Clamp:
		if i < 0 {
			return 0
		}
		return n - 1
	case api.Wrap:
		return int(whole.Mod(big.NewInt(i), big.NewInt(int64(n))).Int64())
	case api.Mirror:
		k := int(whole.Mod(big.NewInt(i), big.NewInt(2*int64(n))).Int64())
		return min(k, 2*n-1-k)
	}
	return -1
}

// shown is a channel of the pixel that stands at a place of an image with a border.
func shown(m api.Image, b api.Border, x, y int64, k int) byte {
	column, line := index(b.Mode, x, m.W), index(b.Mode, y, m.H)
	if column < 0 || line < 0 {
		return b.Color[k]
	}
	return m.Pix[(line*m.W+column)*m.C+k]
}

// asked is a pixel that is asked for.
type asked struct{ x, y int64 }

// pixels tells pixels, without an end, and keeps what is asked for.
type pixels struct {
	l    []asked
	long int    // how many channels it tells
	same []byte // not nil: where it tells all of them
}

func (p *pixels) get(x, y int64) []byte {
	p.l = append(p.l, asked{x, y})
	told := p.same[:min(p.long, len(p.same))]
	if p.same == nil {
		told = make([]byte, p.long)
	}
	for k := range told {
		told[k] = channel(x, y, k)
	}
	return told
}

// channel is what pixels tells, without a pattern.
func channel(x, y int64, k int) byte {
	n := uint64(x)*0x9e3779b97f4a7c15 ^ uint64(y)*0xc2b2ae3d27d4eb4f ^ uint64(k+1)*0x165667b19e3779f9
	n ^= n >> 29
	n *= 0xbf58476d1ce4e5b9
	return byte(n >> 47)
}

// down is a quotient, rounded down.
func down(a, b int64) int64 {
	return new(big.Int).Div(big.NewInt(a), big.NewInt(b)).Int64() // of a divisor above 0 Div rounds down
}

// around is what is asked for.
func around(u, v int64) []asked {
	return []asked{{down(u+32768, one), down(v+32768, one)}}
}

// wanted is a channel of what comes out, of pixels that are told.
func wanted(told func(x, y int64, k int) byte, u, v int64, k int) byte {
	return told(down(u+32768, one), down(v+32768, one), k)
}

func TestP28_1_ByHand(t *testing.T) {
	m, b := api.Image{W: 3, H: 2, C: 1, Pix: []byte{10, 20, 30, 40, 50, 60}}, api.Border{Mode: api.Const, Color: [4]byte{9}}
	for _, c := range []struct {
		u, v int64
		want byte
	}{{0, 0, 10}, {32767, 0, 10}, {32768, 0, 20}, {32767, 32767, 10}, {32767, 32768, 40}, {32768, 32768, 50}, {-32768, 0, 10}, {-32769, 0, 9}, {0, -32768, 10}, {0, -32769, 9}, {163839, 98303, 60}, {163840, 0, 9}, {0, 98304, 9}} {
		if got, e := near.At(m, b, c.u, c.v); len(got) != 1 || got[0] != c.want || e != api.OK {
			t.Errorf("%d, %d: %v %v, not %d", c.u, c.v, got, e, c.want)
		}
	}
	for _, c := range [][4]int64{{0, 65536, 0, 1}, {32767, 32768, 0, 1}, {-32769, -32768, -1, 0}, {-far, far, -1 << 30, 1 << 30}} {
		if lo, hi := near.Reach(c[0], c[1]); lo != c[2] || hi != c[3] {
			t.Errorf("Reach(%d, %d): %d %d", c[0], c[1], lo, hi)
		}
	}
}

func TestP28_1_By(t *testing.T) {
	l := append(places(), ends...)
	for i, u := range l {
		for j := range 15 {
			v := l[(i*7+j*11)%len(l)]
			for _, c := range []int{1, 3, 4, 7} {
				p := pixels{long: c}
				got := near.By(p.get, c, u, v)
				want := make([]byte, c)
				for k := range want {
					want[k] = wanted(channel, u, v, k)
				}
				if !bytes.Equal(got, want) {
					t.Fatalf("%d channels of %d, %d: %v, not %v", c, u, v, got, want)
				}
			}
		}
	}
}

func TestP28_1_Asked(t *testing.T) {
	l := append(places(), ends...)
	for i, u := range l {
		for j := range 10 {
			v := l[(i*5+j*13)%len(l)]
			p := pixels{long: 1}
			near.By(p.get, 1, u, v)
			if want := around(u, v); !slices.Equal(p.l, want) {
				t.Fatalf("of %d, %d: %v is asked for, not %v", u, v, p.l, want)
			}
		}
	}
}

func TestP28_1_FewerAndMore(t *testing.T) {
	for _, u := range []int64{0, 1, 40000, -70000} {
		for _, long := range []int{0, 1, 2, 3, 4, 5, 9} {
			for _, c := range []int{1, 2, 3, 4, 5, 100} {
				p := pixels{long: long}
				got := near.By(p.get, c, u, 3*u)
				want := make([]byte, c)
				for k := range min(c, long) {
					want[k] = wanted(channel, u, 3*u, k)
				}
				if !bytes.Equal(got, want) {
					t.Errorf("%d of %d channels at %d: %v, not %v", c, long, u, got, want)
				}
			}
		}
		ragged := func(x, y int64) []byte { // of as many channels as the column says
			var l []byte
			for k := range int(x & 3) {
				l = append(l, channel(x, y, k))
			}
			return l
		}
		got := near.By(ragged, 4, u, u)
		for k := range 4 {
			want := wanted(func(x, y int64, k int) byte {
				if k >= int(x&3) {
					return 0
				}
				return channel(x, y, k)
			}, u, u, k)
			if got[k] != want {
				t.Errorf("ragged, at %d: %v, not %d", u, got, want)
			}
		}
		if got := near.By(func(x, y int64) []byte { return nil }, 3, u, u); !bytes.Equal(got, []byte{0, 0, 0}) {
			t.Errorf("none told: %v", got)
		}
	}
}

func TestP28_1_None(t *testing.T) {
	for _, c := range []int{0, -1, math.MinInt} {
		p := pixels{long: 4}
		if got := near.By(p.get, c, 0, 0); len(got) != 0 || len(p.l) != 0 {
			t.Errorf("%d channels: %v", c, got)
		}
	}
	for _, c := range []int{1, 0, -1, math.MaxInt, math.MinInt} {
		if got := near.By(nil, c, 0, 0); len(got) != 0 {
			t.Errorf("nobody tells %d channels: %v", c, got)
		}
	}
	for _, u := range beyond {
		for _, v := range append(ends, beyond...) {
			for _, c := range []int{1, 4, 0, math.MaxInt, math.MinInt} {
				p := pixels{long: 4}
				if got := near.By(p.get, c, u, v); len(got) != 0 || len(p.l) != 0 {
					t.Errorf("%d, %d: %v", u, v, got)
				}
				if got := near.By(p.get, c, v, u); len(got) != 0 || len(p.l) != 0 {
					t.Errorf("%d, %d: %v", v, u, got)
				}
			}
		}
	}
}

// P2: what is told may stand in the same memory again and again; it isn't changed, and what comes out is new.
func TestP28_1_Memory(t *testing.T) {
	for _, u := range places() {
		fresh, again := pixels{long: 4}, pixels{long: 4, same: make([]byte, 4)}
		want := near.By(fresh.get, 4, u, -u)
		if got := near.By(again.get, 4, u, -u); !bytes.Equal(got, want) {
			t.Fatalf("%d: %v, not %v", u, got, want)
		}
		kept := bytes.Clone(want)
		again.same = []byte{1, 2, 3, 4}
		got := near.By(func(x, y int64) []byte { return again.same }, 4, u, -u)
		if !bytes.Equal(got, []byte{1, 2, 3, 4}) || !bytes.Equal(again.same, []byte{1, 2, 3, 4}) {
			t.Fatalf("%d: %v, of %v", u, got, again.same)
		}
		clear(got)
		if !bytes.Equal(again.same, []byte{1, 2, 3, 4}) || !bytes.Equal(want, kept) {
			t.Fatalf("%d: %v and %v share memory", u, again.same, want)
		}
	}
}

func TestP28_2_At(t *testing.T) {
	l := append(places(), ends...)
	for _, m := range all() {
		before := bytes.Clone(m.Pix)
		for _, b := range borders() {
			for i, u := range l {
				for j := range 6 {
					v := l[(i*3+j*17)%len(l)]
					got, e := near.At(m, b, u, v)
					want := make([]byte, m.C)
					for k := range want {
						want[k] = wanted(func(x, y int64, k int) byte { return shown(m, b, x, y, k) }, u, v, k)
					}
					if !bytes.Equal(got, want) || e != api.OK {
						t.Fatalf("%d by %d, %v, at %d, %d: %v %v, not %v", m.W, m.H, b, u, v, got, e, want)
					}
					clear(got)
				}
			}
		}
		if !bytes.Equal(m.Pix, before) {
			t.Fatalf("an image of %d by %d is changed", m.W, m.H)
		}
	}
}

func TestP28_2_Wrong(t *testing.T) {
	right, mode := some(2, 2, 3), api.Border{Mode: api.Clamp}
	modes := []api.Border{{Mode: -1}, {Mode: 4}, {Mode: math.MinInt}, {Mode: math.MaxInt, Color: color}}
	for _, w := range wrong() {
		for _, b := range append(modes, borders()...) {
			for _, u := range []int64{0, far + 1} {
				if got, e := near.At(w.m, b, u, -u); len(got) != 0 || e != w.want {
					t.Errorf("of %d by %d, %d: %v %v, not %v", w.m.W, w.m.H, w.m.C, got, e, w.want)
				}
			}
		}
	}
	for _, b := range modes {
		for _, u := range []int64{0, far + 1, math.MinInt64} {
			if got, e := near.At(right, b, u, u); len(got) != 0 || e != api.ErrArg {
				t.Errorf("border %v: %v %v", b, got, e)
			}
		}
	}
	for _, u := range beyond {
		for _, v := range append(ends, beyond...) {
			if got, e := near.At(right, mode, u, v); len(got) != 0 || e != api.ErrRange {
				t.Errorf("%d, %d: %v %v", u, v, got, e)
			}
			if got, e := near.At(right, mode, v, u); len(got) != 0 || e != api.ErrRange {
				t.Errorf("%d, %d: %v %v", v, u, got, e)
			}
		}
	}
}

// asks is the least and the greatest column, and row, that By asks for at a place.
func asks(u, v int64) (lo, hi, top, low int64) {
	p := pixels{long: 1}
	near.By(p.get, 1, u, v)
	lo, hi, top, low = math.MaxInt64, math.MinInt64, math.MaxInt64, math.MinInt64
	for _, a := range p.l {
		lo, hi, top, low = min(lo, a.x), max(hi, a.x), min(top, a.y), max(low, a.y)
	}
	return lo, hi, top, low
}

func TestP28_3_Reach(t *testing.T) {
	l := append(places(), ends...)
	for _, from := range l {
		for _, to := range l {
			// What is asked for never falls as the place rises.
			first, _, top, _ := asks(from, from)
			_, last, _, low := asks(to, to)
			if from > to {
				first, last, top, low = 0, 0, 0, 0
			}
			if lo, hi := near.Reach(from, to); lo != first || hi != last || lo != top || hi != low {
				t.Fatalf("Reach(%d, %d): %d %d, not %d %d", from, to, lo, hi, first, last)
			}
		}
	}
}

func TestP28_3_ReachOfAll(t *testing.T) {
	for from := int64(-140000); from <= 140000; from += 9571 {
		least, greatest := int64(math.MaxInt64), int64(math.MinInt64)
		for u := from; u <= from+140000; u += 17 {
			lo, hi, _, _ := asks(u, 0)
			least, greatest = min(least, lo), max(greatest, hi)
			if u%5 == 0 {
				if lo, hi := near.Reach(from, u); lo != least || hi != greatest {
					t.Fatalf("Reach(%d, %d): %d %d, not %d %d", from, u, lo, hi, least, greatest)
				}
			}
		}
	}
}

func TestP28_3_None(t *testing.T) {
	for _, u := range beyond {
		for _, v := range append(append(places(), ends...), beyond...) {
			if lo, hi := near.Reach(u, v); lo != 0 || hi != 0 {
				t.Errorf("Reach(%d, %d): %d %d", u, v, lo, hi)
			}
			if lo, hi := near.Reach(v, u); lo != 0 || hi != 0 {
				t.Errorf("Reach(%d, %d): %d %d", v, u, lo, hi)
			}
		}
	}
	for _, c := range [][2]int64{{1, 0}, {far, -far}, {300000, 299999}, {-1, -2}} {
		if lo, hi := near.Reach(c[0], c[1]); lo != 0 || hi != 0 {
			t.Errorf("Reach(%d, %d): %d %d", c[0], c[1], lo, hi)
		}
	}
}

func TestP28_4_OneColour(t *testing.T) {
	l := append(places(), ends...)
	for _, own := range [][4]byte{{}, {255, 255, 255, 255}, color, {1, 2, 3, 254}, {127, 128, 129, 130}} {
		for _, c := range []int{1, 3, 4} {
			for _, s := range [][2]int{{1, 1}, {3, 1}, {1, 2}, {4, 3}} {
				m := api.Image{W: s[0], H: s[1], C: c, Pix: bytes.Repeat(own[:c], s[0]*s[1])}
				for _, b := range append(borders()[1:], api.Border{Mode: api.Const, Color: own}) {
					for i, u := range l {
						v := l[(i*29+c)%len(l)]
						if got, e := near.At(m, b, u, v); !bytes.Equal(got, own[:c]) || e != api.OK {
							t.Fatalf("%v at %d, %d, by %v: %v %v", own[:c], u, v, b, got, e)
						}
					}
				}
			}
		}
	}
}

func TestP28_4_Middle(t *testing.T) {
	for _, m := range all() {
		for _, b := range borders() {
			for y := range m.H {
				for x := range m.W {
					want := m.Pix[(y*m.W+x)*m.C:][:m.C]
					if got, e := near.At(m, b, int64(x)*one, int64(y)*one); !bytes.Equal(got, want) || e != api.OK {
						t.Fatalf("%d, %d of %d by %d: %v %v, not %v", x, y, m.W, m.H, got, e, want)
					}
				}
			}
		}
	}
}

// P1 and P2: all end at all edges, wrong ones too, and tell the same again, whatever was called between.
func TestP1_P2_TheSameAgain(t *testing.T) {
	images := all()
	for _, w := range wrong() {
		images = append(images, w.m)
	}
	modes := append(borders(), api.Border{Mode: 4}, api.Border{Mode: math.MinInt})
	l := append(append(places(), ends...), beyond...)
	told := func(i int) string {
		m, b, u, v := images[i%len(images)], modes[i%len(modes)], l[i*13%len(l)], l[i*7%len(l)]
		got, e := near.At(m, b, u, v)
		lo, hi := near.Reach(u, v)
		p := pixels{long: i % 5}
		by := near.By(p.get, i%9-2, u, v)
		return fmt.Sprint(got, e, lo, hi, by, p.l)
	}
	var first []string
	for i := range 8000 {
		first = append(first, told(i))
	}
	for i := len(first) - 1; i >= 0; i-- {
		if again := told(i); again != first[i] {
			t.Fatalf("%d: %s, then %s", i, first[i], again)
		}
	}
}
