package turn_test

import (
	"fmt"
	"math"
	"math/big"
	"slices"
	"testing"

	"anamorph/api"
	"anamorph/turn"
)

const (
	one = 65536
	end = 1 << 20
)

// sizes are those of images that may be turned.
var sizes = [][2]int64{{1, 1}, {3, 1}, {1, 4}, {4, 3}, {2, 2}, {5, 7}, {32768, 1}, {1, 32768}, {32768, 32767}}

// outside are numbers of no turn.
var outside = []int64{-1, -2, -8, 8, 9, 12, 1 << 32, 1<<32 + 1, math.MinInt64, math.MaxInt64}

// place is px divided by d, py divided by d.
type place struct{ px, py, d int64 }

// places are right ones.
func places() []place {
	l := []place{{end, end, 1}, {-end, -end, 1}, {end, -end, 16}, {-end, end, 16}, {0, -end, 7}, {end, 5, 3}}
	for _, d := range []int64{1, 2, 3, 7, 15, 16} {
		for _, px := range []int64{0, 1, -1, 2, -7, 16, 99, 32767} {
			for _, py := range []int64{0, 1, -1, 3, -8, 17, -1000} {
				l = append(l, place{px, py, d})
			}
		}
	}
	return l
}

// wrong are places that aren't right.
func wrong() []place {
	l := []place{{0, 0, 0}, {0, 0, -1}, {0, 0, 17}, {0, 0, -16}, {1, 1, math.MinInt64}, {1, 1, math.MaxInt64}}
	for _, p := range []int64{end + 1, -end - 1, 1 << 32, math.MinInt64, math.MaxInt64} {
		l = append(l, place{p, 0, 1}, place{0, p, 1}, place{p, p, 16}, place{p, -p, 0})
	}
	return l
}

// from is from where a place comes, as the document tells it.
func from(q, w, h int64, x, y *big.Rat) (*big.Rat, *big.Rat) {
	less := func(n int64, a *big.Rat) *big.Rat { return new(big.Rat).Sub(big.NewRat(n-1, 1), a) }
	switch q {
	case 0:
		return x, y
	case 1:
		return y, less(h, x)
	case 2:
		return less(w, x), less(h, y)
	case 3:
		return less(w, y), x
	}
	u, v := from(q-4, w, h, x, y)
	return less(w, u), v
}

// parts is a number told in parts, rounded down.
func parts(a *big.Rat) int64 {
	n := new(big.Int).Mul(a.Num(), big.NewInt(one))
	return n.Div(n, a.Denom()).Int64() // of a divisor above 0 Div rounds down
}

// made is a right turn.
func made(t *testing.T, q, w, h int64) *turn.Map {
	t.Helper()
	m, e := turn.New([]int64{q, w, h})
	if m == nil || e != api.OK {
		t.Fatalf("New(%d, %d, %d): %v", q, w, h, e)
	}
	return m
}

// checked checks the code of a turn.
func checked(t *testing.T, c []int64, want api.Errno) {
	t.Helper()
	if e := turn.Check(c); e != want {
		t.Errorf("Check(%v): %v, not %v", c, e, want)
	}
	if m, e := turn.New(c); e != want || (m == nil) != (want != api.OK) {
		t.Errorf("New(%v): %v %v, not %v", c, m, e, want)
	}
}

func TestP23_1_Right(t *testing.T) {
	for n := range 10 {
		if n != 3 {
			checked(t, slices.Repeat([]int64{1}, n), api.ErrSize)
			checked(t, slices.Repeat([]int64{math.MinInt64}, n), api.ErrSize)
		}
	}
	checked(t, nil, api.ErrSize)
	for q := range int64(8) {
		for _, s := range append(sizes, [2]int64{32768, 32768}) {
			checked(t, []int64{q, s[0], s[1]}, api.OK)
		}
		for _, n := range []int64{0, -1, 32769, 1 << 32, 1<<32 + 1, math.MinInt64, math.MaxInt64} {
			for _, s := range [][2]int64{{n, 1}, {1, n}, {n, n}, {32768, n}, {n, 32768}} {
				checked(t, []int64{q, s[0], s[1]}, api.ErrLimit)
			}
		}
	}
	for _, q := range outside {
		for _, s := range [][2]int64{{1, 1}, {0, 1}, {1, 32769}, {math.MinInt64, 5}} {
			checked(t, []int64{q, s[0], s[1]}, api.ErrArg)
		}
	}
}

func TestP23_2_ByHand(t *testing.T) {
	for _, c := range []struct{ q, x, y, u, v int64 }{ // of an image of 4 columns and 3 rows
		{0, 1, 2, 1, 2}, {1, 0, 0, 0, 2}, {1, 2, 3, 3, 0}, {2, 0, 0, 3, 2}, {2, 3, 1, 0, 1}, {3, 0, 0, 3, 0}, {3, 2, 1, 2, 2},
		{4, 0, 0, 3, 0}, {4, 1, 2, 2, 2}, {5, 0, 0, 3, 2}, {5, 2, 3, 0, 0}, {6, 0, 0, 0, 2}, {6, 3, 1, 3, 1}, {7, 0, 0, 0, 0}, {7, 2, 1, 1, 2},
		{1, -5, 9, 9, 7}, {2, 9, -5, -6, 7},
	} {
		if u, v, e := made(t, c.q, 4, 3).At(c.x, c.y, 1); u != c.u*one || v != c.v*one || e != api.OK {
			t.Errorf("%v: %d %d %v", c, u, v, e)
		}
	}
	if u, v, e := made(t, 1, 4, 3).At(1, 2, 3); u != 43690 || v != 109226 || e != api.OK { // 2/3, and 2 - 1/3, both rounded down
		t.Error(u, v, e)
	}
	if u, v, e := made(t, 2, 4, 3).At(10, -1, 3); u != -21846 || v != 152917 || e != api.OK { // 3 - 10/3, 2 + 1/3
		t.Error(u, v, e)
	}
	if u, v, e := made(t, 5, 4, 3).At(1, 2, 3); u != 152917 || v != 109226 || e != api.OK { // 3 - 2/3, rounded down once
		t.Error(u, v, e)
	}
}

func TestP23_2_At(t *testing.T) {
	for q := range int64(8) {
		for _, s := range sizes {
			m := made(t, q, s[0], s[1])
			for _, p := range places() {
				x, y := from(q, s[0], s[1], big.NewRat(p.px, p.d), big.NewRat(p.py, p.d))
				if u, v, e := m.At(p.px, p.py, p.d); u != parts(x) || v != parts(y) || e != api.OK {
					t.Fatalf("%d of %v at %v: %d %d %v, not %d %d", q, s, p, u, v, e, parts(x), parts(y))
				}
			}
		}
	}
}

func TestP23_2_WrongOnes(t *testing.T) {
	var none *turn.Map
	for q := range int64(8) {
		m := made(t, q, 4, 3)
		for _, p := range wrong() {
			if u, v, e := m.At(p.px, p.py, p.d); u != 0 || v != 0 || e != api.ErrRange {
				t.Errorf("%d at %v: %d %d %v", q, p, u, v, e)
			}
		}
	}
	for _, p := range append(wrong(), places()...) {
		if u, v, e := none.At(p.px, p.py, p.d); u != 0 || v != 0 || e != api.ErrArg {
			t.Errorf("none at %v: %d %d %v", p, u, v, e)
		}
	}
}

func TestP23_2_Size(t *testing.T) {
	for q := range int64(8) {
		for _, s := range sizes {
			w, h := made(t, q, s[0], s[1]).Size()
			if want := []int64{s[q%2], s[1-q%2]}; int64(w) != want[0] || int64(h) != want[1] {
				t.Errorf("Size of %d of %v: %d %d", q, s, w, h)
			}
		}
	}
	var none *turn.Map
	if w, h := none.Size(); w != 0 || h != 0 {
		t.Error("Size of none:", w, h)
	}
}

// some is an image whose bytes all tell their place.
func some(w, h, c int) api.Image {
	m := api.Image{W: w, H: h, C: c}
	for i := range w * h * c {
		m.Pix = append(m.Pix, byte(i*5+i/251+11))
	}
	return m
}

// all are images of one pixel, one row, one column, and others.
func all() []api.Image {
	var l []api.Image
	for _, s := range [][2]int{{1, 1}, {4, 1}, {1, 3}, {2, 3}, {5, 4}, {3, 3}, {16, 9}} {
		for _, c := range []int{1, 3, 4} {
			l = append(l, some(s[0], s[1], c))
		}
	}
	return l
}

// same tells whether two images are alike.
func same(a, b api.Image) bool {
	return a.W == b.W && a.H == b.H && a.C == b.C && slices.Equal(a.Pix, b.Pix)
}

func TestP23_3_ByHand(t *testing.T) {
	m := api.Image{W: 3, H: 2, C: 1, Pix: []byte("abcdef")}
	for q, want := range []string{"abcdef", "daebfc", "fedcba", "cfbead", "cbafed", "fcebda", "defabc", "adbecf"} {
		made, e := turn.Image(m, q)
		if e != api.OK || string(made.Pix) != want || made.W != 3-q%2 || made.H != 2+q%2 || made.C != 1 {
			t.Errorf("%d: %d %d %q %v, not %q", q, made.W, made.H, made.Pix, e, want)
		}
	}
	m = api.Image{W: 2, H: 1, C: 3, Pix: []byte("abcdef")}
	for q, want := range []string{"abcdef", "abcdef", "defabc", "defabc", "defabc", "defabc", "abcdef", "abcdef"} {
		if made, e := turn.Image(m, q); e != api.OK || string(made.Pix) != want {
			t.Errorf("%d: %q %v, not %q", q, made.Pix, e, want)
		}
	}
}

func TestP23_3_Image(t *testing.T) {
	for _, m := range all() {
		kept := slices.Clone(m.Pix)
		for q := range 8 {
			to, e := turn.Image(m, q)
			by := made(t, int64(q), int64(m.W), int64(m.H))
			w, h := by.Size()
			if e != api.OK || to.W != w || to.H != h || to.C != m.C || len(to.Pix) != len(m.Pix) {
				t.Fatalf("%d of %d x %d: %d %d %v", q, m.W, m.H, to.W, to.H, e)
			}
			for i := range w * h {
				u, v, _ := by.At(int64(i%w), int64(i/w), 1)
				at := (int(v/one)*m.W + int(u/one)) * m.C
				if !slices.Equal(to.Pix[i*m.C:(i+1)*m.C], m.Pix[at:at+m.C]) {
					t.Fatalf("%d of %d x %d x %d: pixel %d", q, m.W, m.H, m.C, i)
				}
			}
			clear(to.Pix)
			if !slices.Equal(m.Pix, kept) {
				t.Fatalf("%d of %d x %d x %d: one memory", q, m.W, m.H, m.C)
			}
		}
	}
}

func TestP23_3_LargeOnes(t *testing.T) {
	for _, s := range [][2]int{{32768, 128}, {128, 32768}, {2048, 2048}} {
		m := some(s[0], s[1], 1)
		for q := range 8 {
			to, e := turn.Image(m, q)
			back, e2 := turn.Image(to, turn.Back(q))
			if e != api.OK || e2 != api.OK || !same(back, m) {
				t.Errorf("%d of %v: %v %v", q, s, e, e2)
			}
		}
	}
}

func TestP23_3_WrongOnes(t *testing.T) {
	for _, c := range []struct {
		m    api.Image
		want api.Errno
	}{
		{api.Image{}, api.ErrArg}, {api.Image{W: 1, H: 1, C: 2, Pix: []byte{1, 2}}, api.ErrArg}, {api.Image{W: 40000, H: 0, C: 1}, api.ErrLimit}, {api.Image{W: 2049, H: 2048, C: 1}, api.ErrLimit},
		{api.Image{W: 1, H: 1, C: 1}, api.ErrSize}, {api.Image{W: 0, H: 1, C: 1}, api.ErrSize}, {api.Image{W: 1, H: 1, C: 1, Pix: []byte{1, 2}}, api.ErrSize}, {api.Image{W: -1, H: -1, C: 1, Pix: []byte{1}}, api.ErrSize},
	} {
		for _, q := range []int{0, 1, 7, 8, -1, math.MinInt} {
			if m, e := turn.Image(c.m, q); e != c.want || !same(m, api.Image{}) {
				t.Errorf("%d of a wrong image: %v %v, not %v", q, m, e, c.want)
			}
		}
	}
	for _, q := range outside {
		if m, e := turn.Image(some(2, 3, 1), int(q)); e != api.ErrArg || !same(m, api.Image{}) {
			t.Errorf("%d: %v %v", q, m, e)
		}
	}
}

func TestP23_4_Then(t *testing.T) {
	if turn.Then(1, 1) != 2 || turn.Then(3, 3) != 2 || turn.Then(2, 2) != 0 || turn.Then(4, 4) != 0 || turn.Then(4, 1) != 5 || turn.Then(1, 4) != 7 || turn.Then(5, 6) != 1 || turn.Then(6, 5) != 3 {
		t.Error("by hand")
	}
	for a := range 8 {
		for b := range 8 {
			q := turn.Then(a, b)
			for _, m := range all() {
				first, _ := turn.Image(m, a)
				both, _ := turn.Image(first, b)
				if at, e := turn.Image(m, q); e != api.OK || !same(at, both) {
					t.Fatalf("Then(%d, %d): %d", a, b, q)
				}
			}
		}
		for _, n := range outside {
			if turn.Then(a, int(n)) != 0 || turn.Then(int(n), a) != 0 || turn.Then(int(n), int(n)) != 0 {
				t.Errorf("Then of %d and %d", a, n)
			}
		}
	}
}

func TestP23_4_Back(t *testing.T) {
	for q, want := range []int{0, 3, 2, 1, 4, 5, 6, 7} {
		if turn.Back(q) != want || turn.Then(q, want) != 0 || turn.Then(want, q) != 0 {
			t.Errorf("Back(%d): %d", q, turn.Back(q))
		}
		for _, m := range all() {
			to, _ := turn.Image(m, q)
			if back, e := turn.Image(to, turn.Back(q)); e != api.OK || !same(back, m) {
				t.Fatalf("Back(%d) of %d x %d", q, m.W, m.H)
			}
		}
	}
	for _, q := range outside {
		if turn.Back(int(q)) != 0 {
			t.Errorf("Back(%d): %d", q, turn.Back(int(q)))
		}
	}
}

// P2: a turn is what it was made of, whatever is written there later, and changes nothing of it.
func TestP2_Memory(t *testing.T) {
	for q := range int64(8) {
		c := []int64{q, 4, 3}
		m, _ := turn.New(c)
		before := fmt.Sprint(m.At(1, 5, 2))
		if turn.Check(c); !slices.Equal(c, []int64{q, 4, 3}) {
			t.Fatal(c)
		}
		clear(c)
		if after := fmt.Sprint(m.At(1, 5, 2)); after != before {
			t.Fatalf("%d: %s, then %s", q, before, after)
		}
	}
}

// every is what all calls tell.
func every(m *turn.Map, c []int64, p place, im api.Image, q, r int) string {
	u, v, e := m.At(p.px, p.py, p.d)
	w, h := m.Size()
	_, code := turn.New(c)
	to, e2 := turn.Image(im, q)
	return fmt.Sprint(u, v, e, w, h, code, turn.Check(c), to, e2, turn.Then(q, r), turn.Back(q))
}

// P1 and P2: all end at all edges, wrong ones too, and tell the same again, whatever was called between.
func TestP1_P2_TheSameAgain(t *testing.T) {
	var l [][]int64
	for q := int64(-1); q <= 8; q++ {
		for _, s := range append(sizes, [2]int64{0, 1}, [2]int64{1, 32769}, [2]int64{math.MinInt64, math.MaxInt64}) {
			l = append(l, []int64{q, s[0], s[1]})
		}
	}
	l = append(l, nil, []int64{1}, make([]int64, 4))
	var kept []*turn.Map
	for _, c := range l {
		m, _ := turn.New(c)
		kept = append(kept, m)
	}
	where, images := append(places(), wrong()...), append(all(), api.Image{}, api.Image{W: 1, H: 1, C: 1})
	told := func(i int) string {
		return every(kept[i%len(l)], l[i*7%len(l)], where[i*11%len(where)], images[i%len(images)], i%11-1, i/11%11-1)
	}
	var first []string
	for i := range 5000 {
		first = append(first, told(i))
	}
	for i := len(first) - 1; i >= 0; i-- {
		if again := told(i); again != first[i] {
			t.Fatalf("%d: %s, then %s", i, first[i], again)
		}
	}
}
