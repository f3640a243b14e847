package border_test

import (
	"fmt"
	"math"
	"math/big"
	"slices"
	"testing"

	"anamorph/api"
	"anamorph/border"
)

// modes are the four, and some that are none.
var modes = []int{api.Const, api.Clamp, api.Wrap, api.Mirror, -1, 4, 5, math.MinInt, math.MaxInt}

// lengths are rows' lengths, some of them none, and some beyond any image.
var lengths = []int{math.MinInt, -1, 0, 1, 2, 3, 5, 32768, 1<<31 - 1, 1 << 31, 1<<31 + 1, 1<<62 - 1, 1 << 62, 1<<62 + 1, math.MaxInt - 1, math.MaxInt}

// far are places far beyond a row on both sides.
var far = []int64{
	0, 1, -1, 2, -2, 3, -4, 5, -7, 32767, 32768, -32768, -32769, 1<<31 - 1, 1 << 31, -1 << 31, 1<<46 + 1, -1<<46 - 1,
	1<<62 - 1, 1 << 62, -1 << 62, -1<<62 - 1, math.MaxInt64 - 1, math.MaxInt64, math.MinInt64, math.MinInt64 + 1, math.MinInt64 + 2,
}

// want is what Index must tell, reckoned in numbers of any size.
func want(mode int, i int64, n int) (int, bool) {
	if n < 1 || mode < 0 || mode > 3 {
		return 0, false
	}
	if 0 <= i && i < int64(n) {
		return int(i), true
	}
	wide, whole := big.NewInt(i), big.NewInt(int64(n))
	switch mode {
	case api.Const:
		return 0, false
	case api.Clamp:
		if i < 0 {
			return 0, true
		}
		return n - 1, true
	case api.Wrap:
		return int(wide.Mod(wide, whole).Int64()), true // of a divisor above 0 Mod rounds down
	}
	twice := new(big.Int).Lsh(whole, 1)
	wide.Mod(wide, twice)
	if wide.Cmp(whole) >= 0 {
		wide.Sub(twice.Sub(twice, big.NewInt(1)), wide)
	}
	return int(wide.Int64()), true
}

// some is an image whose bytes all tell their place.
func some(w, h, c int) api.Image {
	m := api.Image{W: w, H: h, C: c}
	for i := range w * h * c {
		m.Pix = append(m.Pix, byte(i*5+11))
	}
	return m
}

// all are images of one pixel, one row, one column, and others.
func all() []api.Image {
	var l []api.Image
	for _, s := range [][2]int{{1, 1}, {4, 1}, {1, 3}, {2, 3}, {5, 4}} {
		for _, c := range []int{1, 3, 4} {
			l = append(l, some(s[0], s[1], c))
		}
	}
	return l
}

// bad is an image that isn't right, and its code.
type bad struct {
	m    api.Image
	want api.Errno
}

func wrong() []bad {
	return []bad{
		{api.Image{}, api.ErrArg}, {api.Image{W: 1, H: 1, C: 2, Pix: []byte{1, 2}}, api.ErrArg},
		{api.Image{W: 40000, H: 0, C: 1}, api.ErrLimit}, {api.Image{W: 2049, H: 2048, C: 1}, api.ErrLimit},
		{api.Image{W: 1, H: 1, C: 1}, api.ErrSize}, {api.Image{W: 0, H: 1, C: 1}, api.ErrSize},
		{api.Image{W: 1, H: 1, C: 1, Pix: []byte{1, 2}}, api.ErrSize},
	}
}

var color = [4]byte{201, 202, 203, 204}

func TestP8_1_Check(t *testing.T) {
	for _, mode := range modes {
		e := api.OK
		if mode < 0 || mode > 3 {
			e = api.ErrArg
		}
		for _, c := range [][4]byte{{}, color} {
			if got := border.Check(api.Border{Mode: mode, Color: c}); got != e {
				t.Errorf("Check of %d: %v, not %v", mode, got, e)
			}
		}
	}
}

func TestP8_1_IndexByHand(t *testing.T) {
	for _, c := range []struct {
		mode, n int
		want    string // of the places from -8 to 8
	}{
		{api.Clamp, 1, "[0 0 0 0 0 0 0 0 0 0 0 0 0 0 0 0 0]"},
		{api.Wrap, 1, "[0 0 0 0 0 0 0 0 0 0 0 0 0 0 0 0 0]"},
		{api.Mirror, 1, "[0 0 0 0 0 0 0 0 0 0 0 0 0 0 0 0 0]"},
		{api.Const, 1, "[- - - - - - - - 0 - - - - - - - -]"},
		{api.Clamp, 3, "[0 0 0 0 0 0 0 0 0 1 2 2 2 2 2 2 2]"},
		{api.Wrap, 3, "[1 2 0 1 2 0 1 2 0 1 2 0 1 2 0 1 2]"},
		{api.Mirror, 3, "[1 0 0 1 2 2 1 0 0 1 2 2 1 0 0 1 2]"},
		{api.Const, 3, "[- - - - - - - - 0 1 2 - - - - - -]"},
		{api.Mirror, 2, "[0 1 1 0 0 1 1 0 0 1 1 0 0 1 1 0 0]"},
		{api.Wrap, 2, "[0 1 0 1 0 1 0 1 0 1 0 1 0 1 0 1 0]"},
		{4, 3, "[- - - - - - - - - - - - - - - - -]"},
		{-1, 3, "[- - - - - - - - - - - - - - - - -]"},
		{api.Clamp, 0, "[- - - - - - - - - - - - - - - - -]"},
		{api.Wrap, 0, "[- - - - - - - - - - - - - - - - -]"},
		{api.Mirror, -3, "[- - - - - - - - - - - - - - - - -]"},
	} {
		var got []string
		for i := int64(-8); i <= 8; i++ {
			k, is := border.Index(c.mode, i, c.n)
			if !is && k != 0 {
				t.Errorf("none of mode %d at %d: %d", c.mode, i, k)
			}
			if is {
				got = append(got, fmt.Sprint(k))
			} else {
				got = append(got, "-")
			}
		}
		if fmt.Sprint(got) != c.want {
			t.Errorf("mode %d of %d: %v, not %s", c.mode, c.n, got, c.want)
		}
	}
}

func TestP8_1_IndexFarAway(t *testing.T) {
	for _, mode := range modes {
		for _, n := range lengths {
			places := slices.Clone(far)
			for _, x := range []int64{int64(n), -int64(n), 2 * int64(n), -2 * int64(n), 3 * int64(n)} {
				places = append(places, x-1, x, x+1)
			}
			for _, i := range places {
				k, is := border.Index(mode, i, n)
				if a, b := want(mode, i, n); k != a || is != b {
					t.Errorf("Index(%d, %d, %d): %d %v, not %d %v", mode, i, n, k, is, a, b)
				}
			}
		}
	}
}

func TestP8_2_Period(t *testing.T) {
	for _, n := range lengths {
		for _, mode := range modes {
			want := 0
			if 1 <= n && n <= 1<<31 {
				switch mode {
				case api.Wrap:
					want = n
				case api.Mirror:
					want = n + n
				}
			}
			if p := border.Period(mode, n); p != want {
				t.Errorf("Period(%d, %d): %d, not %d", mode, n, p, want)
			}
		}
	}
}

// pixel is what Pixel must tell of right ones, byte by byte.
func pixel(m api.Image, b api.Border, x, y int64) []byte {
	i, first := want(b.Mode, x, m.W)
	k, second := want(b.Mode, y, m.H)
	if !first || !second {
		return b.Color[:m.C]
	}
	return m.Pix[(k*m.W+i)*m.C : (k*m.W+i+1)*m.C]
}

func TestP8_3_Pixels(t *testing.T) {
	places := append(slices.Clone(far), -3, -5, -6, 4, 6, 7, 8)
	for _, m := range all() {
		for mode := range 4 {
			b := api.Border{Mode: mode, Color: color}
			for _, x := range places {
				for _, y := range places {
					shows(t, m, b, x, y)
				}
			}
		}
	}
}

// shows checks Pixel and At at one place.
func shows(t *testing.T, m api.Image, b api.Border, x, y int64) {
	t.Helper()
	want := pixel(m, b, x, y)
	if p, e := border.Pixel(m, b, x, y); e != api.OK || !slices.Equal(p, want) {
		t.Fatalf("Pixel of %d x %d, mode %d, at %d, %d: %v %v, not %v", m.W, m.H, b.Mode, x, y, p, e, want)
	}
	for k := -1; k <= 4; k++ {
		var v byte
		e := api.ErrRange
		if 0 <= k && k < m.C {
			v, e = want[k], api.OK
		}
		if got, code := border.At(m, b, x, y, k); got != v || code != e {
			t.Fatalf("At of %d x %d x %d, mode %d, at %d, %d, %d: %d %v, not %d %v", m.W, m.H, m.C, b.Mode, x, y, k, got, code, v, e)
		}
	}
}

func TestP8_3_OneSideBeyond(t *testing.T) {
	m := api.Image{W: 2, H: 2, C: 1, Pix: []byte{1, 2, 3, 4}}
	b := api.Border{Mode: api.Const, Color: [4]byte{9, 8, 7, 6}}
	for _, c := range []struct {
		x, y int64
		want byte
	}{{0, 0, 1}, {1, 0, 2}, {0, 1, 3}, {1, 1, 4}, {-1, 0, 9}, {2, 1, 9}, {0, -1, 9}, {1, 2, 9}, {-1, -1, 9}, {2, 2, 9}} {
		if v, e := border.At(m, b, c.x, c.y, 0); v != c.want || e != api.OK {
			t.Errorf("At %d, %d: %d %v", c.x, c.y, v, e)
		}
	}
	m = api.Image{W: 1, H: 1, C: 4, Pix: []byte{1, 2, 3, 4}}
	for k := range 4 {
		if v, e := border.At(m, b, 1, 0, k); v != b.Color[k] || e != api.OK {
			t.Errorf("channel %d of the colour: %d %v", k, v, e)
		}
	}
}

func TestP8_3_WrongOnes(t *testing.T) {
	for _, k := range []int{math.MinInt, -1, 0, 1, 9, math.MaxInt} {
		for _, c := range wrong() {
			for _, mode := range modes {
				b := api.Border{Mode: mode, Color: color}
				if v, e := border.At(c.m, b, 0, 0, k); v != 0 || e != c.want {
					t.Errorf("At of a wrong image: %d %v, not %v", v, e, c.want)
				}
				if p, e := border.Pixel(c.m, b, 0, 0); len(p) != 0 || e != c.want {
					t.Errorf("Pixel of a wrong image: %v %v, not %v", p, e, c.want)
				}
			}
		}
		for _, m := range all() {
			for _, mode := range modes[4:] {
				b := api.Border{Mode: mode, Color: color}
				if v, e := border.At(m, b, 0, 0, k); v != 0 || e != api.ErrArg {
					t.Errorf("At of mode %d: %d %v", mode, v, e)
				}
				if p, e := border.Pixel(m, b, 0, 0); len(p) != 0 || e != api.ErrArg {
					t.Errorf("Pixel of mode %d: %v %v", mode, p, e)
				}
			}
			if v, e := border.At(m, api.Border{}, 0, 0, k); (k < 0 || k >= m.C) && (v != 0 || e != api.ErrRange) {
				t.Errorf("channel %d: %d %v", k, v, e)
			}
		}
	}
}

// What is told shares no memory with the image.
func TestP8_3_Memory(t *testing.T) {
	m := some(2, 2, 3)
	for mode := range 4 {
		for _, x := range []int64{0, -1} {
			p, _ := border.Pixel(m, api.Border{Mode: mode, Color: color}, x, 0)
			q, _ := border.Pixel(m, api.Border{Mode: mode, Color: color}, x, 0)
			clear(p)
			_ = append(p, 0, 0, 0)
			if !slices.Equal(m.Pix, some(2, 2, 3).Pix) || slices.Equal(p, q) {
				t.Fatalf("mode %d: %v, %v", mode, m.Pix, q)
			}
		}
	}
}

func TestP8_4_ComesAgain(t *testing.T) {
	for _, mode := range []int{api.Wrap, api.Mirror} {
		for _, n := range []int{1, 2, 3, 7, 32768, 1 << 31} {
			p := int64(border.Period(mode, n))
			for i := int64(-20); i <= 20; i++ {
				here, is := border.Index(mode, i, n)
				for _, rounds := range []int64{1, -1, 2, -3, 1000, -1001} {
					if again, too := border.Index(mode, i+rounds*p, n); again != here || !is || !too {
						t.Fatalf("mode %d of %d at %d: %d, %d rounds on %d", mode, n, i, here, rounds, again)
					}
				}
			}
			if n > 2 { // and after none that is shorter
				near, _ := border.Index(mode, 1, n)
				for _, d := range []int64{p - 1, p + 1, p - 2} {
					if k, _ := border.Index(mode, 1+d, n); k == near {
						t.Errorf("mode %d of %d: the same after %d", mode, n, d)
					}
				}
			}
		}
	}
}

// every is what all calls tell.
func every(m api.Image, mode, n int, x, y int64, k int) string {
	b := api.Border{Mode: mode, Color: color}
	i, is := border.Index(mode, x, n)
	v, e1 := border.At(m, b, x, y, k)
	p, e2 := border.Pixel(m, b, x, y)
	return fmt.Sprint(border.Check(b), i, is, border.Period(mode, n), v, e1, p, e2)
}

// P1 and P2: all end at all edges, wrong images too, and tell the same again, whatever was called between.
func TestP1_P2_TheSameAgain(t *testing.T) {
	l := all()
	for _, c := range wrong() {
		l = append(l, c.m)
	}
	var first []string
	told := func(i int) string {
		return every(l[i%len(l)], modes[i%len(modes)], lengths[i%len(lengths)], far[i%len(far)], far[i/7%len(far)], i%7-1)
	}
	for i := range 20000 {
		first = append(first, told(i))
	}
	for i := len(first) - 1; i >= 0; i-- {
		if again := told(i); again != first[i] {
			t.Fatalf("%d: %s, then %s", i, first[i], again)
		}
	}
}
