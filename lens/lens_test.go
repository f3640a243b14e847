package lens_test

import (
	"fmt"
	"math"
	"math/big"
	"slices"
	"testing"

	"anamorph/api"
	"anamorph/lens"
)

const (
	bend  = 65536
	move  = 1 << 31
	focus = 32768
	one   = 65536
	seen  = 1 << 18
	end   = 1 << 20
)

// glass is a lens, for an image of a size.
type glass struct {
	c    []int64
	w, h int
}

// glasses are right ones: plain ones, bent ones, aslant ones, and such as lie at the ends.
func glasses() []glass {
	l := []glass{
		{[]int64{0, 0, 1, 0, 0, 0, 0}, 3, 4}, {[]int64{3 * one / 2, one, 2, 0, 0, 0, 0}, 4, 3}, {[]int64{-5, 7, 3, 0, 0, 0, 0}, 5, 5},
		{[]int64{50 * one, 40 * one, 100, bend, 0, 0, 0}, 101, 81}, {[]int64{50 * one, 40 * one, 100, 0, bend, 0, 0}, 101, 81}, {[]int64{50 * one, 40 * one, 100, 0, 0, bend, 0}, 101, 81}, {[]int64{50 * one, 40 * one, 100, 0, 0, 0, bend}, 101, 81},
		{[]int64{50 * one, 40 * one, 100, -bend, 0, 0, 0}, 101, 81}, {[]int64{50 * one, 40 * one, 100, 0, -bend, 0, 0}, 101, 81}, {[]int64{50 * one, 40 * one, 100, 0, 0, -bend, 0}, 101, 81}, {[]int64{50 * one, 40 * one, 100, 0, 0, 0, -bend}, 101, 81},
		{[]int64{50*one + 1, 40*one - 7, 33, 12345, -6543, 321, -1234}, 100, 80}, {[]int64{move, move, focus, bend, bend, bend, bend}, 32768, 32768}, {[]int64{-move, -move, focus, -bend, -bend, -bend, -bend}, 32768, 32768},
		{[]int64{0, 0, focus, -bend, bend, 1, -1}, 32768, 1}, {[]int64{move / 2, move / 2, 4097, bend, -bend, bend, -bend}, 32768, 32768}, {[]int64{0, 0, 1, bend, bend, bend, bend}, 4, 4}, {[]int64{one, 2 * one, 1, -bend, bend, bend, -bend}, 4, 4},
		{[]int64{seen - one/2, seen - one/2, 1, 7, -8, 9, -10}, 1, 1}, {[]int64{one/2 - seen, one/2 - seen, 1, bend, bend, bend, bend}, 1, 1}, {[]int64{0, 0, 7, 1, 1, 1, 1}, 28, 28}, {[]int64{0, 0, 7, -1, -1, -1, -1}, 28, 28},
	}
	x := uint64(3)
	next := func(n int64) int64 {
		x = x*6364136223846793005 + 1442695040888963407
		return int64(x>>33) % n
	}
	for n := range 60 { // and some without any pattern
		w, h := int(next(300))+1, int(next(300))+1
		c := []int64{next(int64(w) * one), next(int64(h) * one), next(400) + 80, 0, 0, 0, 0}
		for i := 3; i < 7; i++ {
			c[i] = next(2*bend+1) - bend
			c[i] >>= n % 9
		}
		l = append(l, glass{c, w, h})
	}
	return l
}

// place is px divided by d, py divided by d.
type place struct{ px, py, d int64 }

// places are right ones, some of them too far away to be seen by most lenses.
func places() []place {
	l := []place{{end, end, 1}, {-end, -end, 1}, {end, -end, 16}, {-end, end, 16}, {0, -end, 7}, {32768, 32768, 1}, {-65536, 65536, 2}}
	for _, d := range []int64{1, 2, 3, 7, 16} {
		for _, px := range []int64{0, 1, -1, 2, -7, 50, 99, 137} {
			for _, py := range []int64{0, 1, -1, 5, -16, 40, 171} {
				l = append(l, place{px, py, d})
			}
		}
	}
	return l
}

// wrong are places that aren't right.
func wrong() []place {
	l := []place{{0, 0, 0}, {0, 0, -1}, {0, 0, 17}, {0, 0, -16}, {1, 1, math.MinInt64}, {1, 1, math.MaxInt64}}
	for _, p := range []int64{end + 1, -end - 1, 1 << 32, math.MinInt64, math.MaxInt64} {
		l = append(l, place{p, 0, 1}, place{0, p, 1}, place{p, p, 16}, place{p, -p, 0})
	}
	return l
}

// num is a number of any size.
type num = *big.Int

func of(x int64) num     { return big.NewInt(x) }
func plus(a, b num) num  { return new(big.Int).Add(a, b) }
func times(a, b num) num { return new(big.Int).Mul(a, b) }

// floor is a quotient by a number above 0, rounded down.
func floor(a num, b int64) num { return new(big.Int).Div(a, of(b)) }

func down(a num) num { return floor(a, one) }

// sight is x and y of P20.2, and whether they aren't too far from 0.
func sight(c []int64, p place) (num, num, bool) {
	aside := func(p, d, middle int64) num {
		return floor(plus(floor(times(of(one), of(p)), d), of(-middle)), c[2])
	}
	x, y := aside(p.px, p.d, c[0]), aside(p.py, p.d, c[1])
	return x, y, x.CmpAbs(of(seen)) <= 0 && y.CmpAbs(of(seen)) <= 0
}

// want is where a place comes from, step by step, as the document tells it.
func want(c []int64, p place) (int64, int64, api.Errno) {
	x, y, is := sight(c, p)
	if !is {
		return 0, 0, api.ErrRange
	}
	f, k1, k2, p1, p2 := of(c[2]), of(c[3]), of(c[4]), of(c[5]), of(c[6])
	r := down(plus(times(x, x), times(y, y)))
	q := down(times(r, r))
	g := plus(plus(of(one), down(times(k1, r))), down(times(k2, q)))
	s := down(times(of(2), times(x, y)))
	xx := plus(r, down(times(of(2), times(x, x))))
	yy := plus(r, down(times(of(2), times(y, y))))
	u := plus(of(c[0]), times(f, plus(plus(down(times(x, g)), down(times(p1, s))), down(times(p2, xx)))))
	v := plus(of(c[1]), times(f, plus(plus(down(times(y, g)), down(times(p1, yy))), down(times(p2, s)))))
	return u.Int64(), v.Int64(), api.OK
}

// made is a right lens.
func made(t *testing.T, g glass) *lens.Map {
	t.Helper()
	m, e := lens.New(g.c, g.w, g.h)
	if m == nil || e != api.OK {
		t.Fatalf("New(%v): %v", g, e)
	}
	return m
}

// checked checks the code of a lens.
func checked(t *testing.T, g glass, want api.Errno) {
	t.Helper()
	if e := lens.Check(g.c, g.w, g.h); e != want {
		t.Errorf("Check(%v): %v, not %v", g, e, want)
	}
	if m, e := lens.New(g.c, g.w, g.h); e != want || (m == nil) != (want != api.OK) {
		t.Errorf("New(%v): %v %v, not %v", g, m, e, want)
	}
}

func TestP20_1_Size(t *testing.T) {
	for n := range 20 {
		if n != 7 {
			checked(t, glass{slices.Repeat([]int64{math.MinInt64}, n), 0, 0}, api.ErrSize)
			checked(t, glass{slices.Repeat([]int64{1}, n), 1, 1}, api.ErrSize)
		}
	}
	checked(t, glass{nil, 1, 1}, api.ErrSize)
}

func TestP20_1_Range(t *testing.T) {
	if lens.MaxFocus != focus {
		t.Error("MaxFocus:", lens.MaxFocus)
	}
	for i, ends := range [][2]int64{{-move, move}, {-move, move}, {1, focus}, {-bend, bend}, {-bend, bend}, {-bend, bend}, {-bend, bend}} {
		for _, x := range []int64{ends[0], ends[1], ends[0] + 1, ends[1] - 1} {
			c := []int64{0, 0, focus, 0, 0, 0, 0}
			c[i] = x
			checked(t, glass{c, 1, 1}, api.OK)
		}
		for _, x := range []int64{ends[0] - 1, ends[1] + 1, math.MinInt64, math.MaxInt64, math.MinInt64 + 1, -1 << 40} {
			for _, s := range [][2]int{{1, 1}, {0, 1}, {32768, 32769}} {
				c := []int64{0, 0, focus, 0, 0, 0, 0}
				c[i] = x
				checked(t, glass{c, s[0], s[1]}, api.ErrRange)
			}
		}
	}
}

func TestP20_1_Limit(t *testing.T) {
	for _, s := range [][2]int{{1, 1}, {32768, 1}, {1, 32768}, {32768, 32768}} {
		checked(t, glass{[]int64{0, 0, focus, 1, 1, 1, 1}, s[0], s[1]}, api.OK)
	}
	for _, n := range []int{0, -1, 32769, 1 << 32, math.MinInt, math.MaxInt} {
		for _, c := range [][]int64{{0, 0, focus, 1, 1, 1, 1}, {move, move, 1, 0, 0, 0, 0}} { // the second one is too far away, too: that is told later
			checked(t, glass{c, n, 1}, api.ErrLimit)
			checked(t, glass{c, 1, n}, api.ErrLimit)
			checked(t, glass{c, n, n}, api.ErrLimit)
		}
	}
}

// What is seen at the corners, at the farthest and one further: on each side, at all ways of rounding.
func TestP20_1_Far(t *testing.T) {
	for _, f := range []int64{1, 2, 3, 7, 100} {
		left, right := seen*f-one/2, one/2-seen*f-(f-1) // of an image of one pixel: the greatest and the least middle that may be
		for _, by := range []int64{0, 1, -1, 2, 1000} {
			for _, side := range [][3]int64{{left, left + by, by}, {right, right - by, by}} {
				want := api.OK
				if by > 0 {
					want = api.ErrRange
				}
				checked(t, glass{[]int64{side[1], 0, f, 0, 0, 0, 0}, 1, 1}, want)
				checked(t, glass{[]int64{0, side[1], f, 0, 0, 0, 0}, 1, 1}, want)
				checked(t, glass{[]int64{side[1], side[0], f, bend, bend, bend, bend}, 1, 1}, want)
			}
		}
	}
	for _, n := range []int{1, 4, 5, 100, 32768} { // how wide an image may be: w - 1/2 is seen last
		f := max(1, int64(n)/4)
		for _, c := range [][2]int{{n, 1}, {1, n}} {
			_, _, is := sight([]int64{0, 0, f}, place{int64(2*c[0] - 1), int64(2*c[1] - 1), 2})
			want := api.ErrRange
			if is {
				want = api.OK
			}
			checked(t, glass{[]int64{0, 0, f, 5, 5, 5, 5}, c[0], c[1]}, want)
		}
	}
	checked(t, glass{[]int64{0, 0, 1, 0, 0, 0, 0}, 4, 4}, api.OK)
	checked(t, glass{[]int64{0, 0, 1, 0, 0, 0, 0}, 5, 1}, api.ErrRange)
	checked(t, glass{[]int64{0, 0, 1, 0, 0, 0, 0}, 1, 5}, api.ErrRange)
	checked(t, glass{[]int64{one / 2, 0, 1, 0, 0, 0, 0}, 5, 1}, api.OK)
	checked(t, glass{[]int64{one/2 - 1, 0, 1, 0, 0, 0, 0}, 5, 1}, api.ErrRange)
}

func TestP20_2_ByHand(t *testing.T) {
	for _, c := range []struct {
		g    glass
		p    place
		u, v int64
	}{
		{glass{[]int64{0, 0, 1, 0, 0, 0, 0}, 4, 4}, place{2, 3, 1}, 2 * one, 3 * one},
		{glass{[]int64{0, 0, 1, bend, 0, 0, 0}, 4, 4}, place{1, 0, 1}, 2 * one, 0},               // 1 (1 + 1)
		{glass{[]int64{0, 0, 1, 0, bend, 0, 0}, 4, 4}, place{0, 2, 1}, 0, 34 * one},              // 2 (1 + 16)
		{glass{[]int64{0, 0, 1, 0, 0, bend, 0}, 4, 4}, place{1, 2, 1}, 5 * one, 15 * one},        // 1 + 2*1*2, 2 + 5 + 2*4
		{glass{[]int64{0, 0, 1, 0, 0, 0, bend}, 4, 4}, place{1, 2, 1}, 8 * one, 6 * one},         // 1 + 5 + 2*1, 2 + 2*1*2
		{glass{[]int64{one, 2 * one, 2, bend, 0, 0, 0}, 4, 4}, place{3, 2, 1}, 5 * one, 2 * one}, // 1 + 2 (1 (1 + 1))
		{glass{[]int64{0, 0, 2, 0, 0, 0, 0}, 4, 4}, place{1, -1, 3}, 21844, -21846},              // 21845 and -21846, halved, rounded down, and twice
		{glass{[]int64{1, -1, 1, 0, 0, 0, 0}, 3, 3}, place{1, 1, 3}, 21845, 21845},
	} {
		u, v, e := made(t, c.g).At(c.p.px, c.p.py, c.p.d)
		if u != c.u || v != c.v || e != api.OK {
			t.Errorf("%v at %v: %d %d %v, not %d %d", c.g, c.p, u, v, e, c.u, c.v)
		}
	}
}

// nearby are places in an image, half a pixel around it, and some further.
func nearby(g glass) []place {
	l := []place{{-1, -1, 2}, {int64(2*g.w - 1), int64(2*g.h - 1), 2}, {-1, int64(2*g.h - 1), 2}, {int64(2*g.w - 1), -1, 2}, {int64(g.w - 1), int64(g.h - 1), 1}}
	for i := int64(0); i <= 6; i++ {
		for k := int64(0); k <= 6; k++ {
			d := (i+k)%16 + 1
			l = append(l, place{int64(g.w) * i * d / 6, int64(g.h) * k * d / 6, d}, place{int64(g.w)*i/6 + i, int64(g.h)*k/6 - k, 1})
		}
	}
	return l
}

func TestP20_2_At(t *testing.T) {
	codes := map[api.Errno]int{}
	for _, g := range glasses() {
		m := made(t, g)
		for _, p := range append(places(), nearby(g)...) {
			x, y, e := want(g.c, p)
			codes[e]++
			if u, v, code := m.At(p.px, p.py, p.d); u != x || v != y || code != e {
				t.Fatalf("%v at %v: %d %d %v, not %d %d %v", g, p, u, v, code, x, y, e)
			}
		}
	}
	if codes[api.OK] < 1000 || codes[api.ErrRange] < 100 {
		t.Error("the places aren't of both kinds:", codes)
	}
}

// The farthest places that are seen, and one further, on each side by itself.
func TestP20_2_Far(t *testing.T) {
	for _, f := range []int64{1, 2, 5} {
		m := made(t, glass{[]int64{0, 0, f, 9, 9, 9, 9}, 1, 1})
		for _, p := range []place{{4 * f, 0, 1}, {-4 * f, 0, 1}, {0, 4 * f, 1}, {0, -4 * f, 1}, {4 * f, -4 * f, 1}, {64 * f, 64 * f, 16}} {
			if _, _, e := m.At(p.px, p.py, p.d); e != api.OK {
				t.Errorf("%d at %v: %v", f, p, e)
			}
		}
		for _, p := range []place{{64*f + 1, 0, 16}, {-64*f - 1, 0, 16}, {0, 64*f + 1, 16}, {0, -64*f - 1, 16}, {4*f + 1, 4*f + 1, 1}} {
			if u, v, e := m.At(p.px, p.py, p.d); u != 0 || v != 0 || e != api.ErrRange {
				t.Errorf("%d at %v: %d %d %v", f, p, u, v, e)
			}
		}
	}
}

// Within its image, and half a pixel around, a lens tells of each place.
func TestP20_2_Within(t *testing.T) {
	for _, g := range glasses() {
		m := made(t, g)
		for x := -1; x <= 2*g.w-1; x += max(1, g.w/9) {
			for y := -1; y <= 2*g.h-1; y += max(1, g.h/9) {
				if _, _, e := m.At(int64(x), int64(y), 2); e != api.OK {
					t.Fatalf("%v at %d, %d: %v", g, x, y, e)
				}
			}
		}
	}
}

func TestP20_2_WrongOnes(t *testing.T) {
	var none *lens.Map
	m := made(t, glass{[]int64{0, 0, focus, 1, 1, 1, 1}, 9, 9})
	for _, p := range wrong() {
		if u, v, e := m.At(p.px, p.py, p.d); u != 0 || v != 0 || e != api.ErrRange {
			t.Errorf("at %v: %d %d %v", p, u, v, e)
		}
	}
	for _, p := range append(wrong(), places()...) {
		if u, v, e := none.At(p.px, p.py, p.d); u != 0 || v != 0 || e != api.ErrArg {
			t.Errorf("none at %v: %d %d %v", p, u, v, e)
		}
	}
	if none.Bound() != 0 {
		t.Error("Bound of none:", none.Bound())
	}
	if _, _, e := m.At(end, -end, 16); e != api.OK { // two focuses away are seen
		t.Error("at the end:", e)
	}
}

// ideal is where a place would come from without any rounding.
func ideal(c []int64, p place) (*big.Rat, *big.Rat) {
	rat := func(a, b int64) *big.Rat { return big.NewRat(a, b) }
	mul := func(l ...*big.Rat) *big.Rat {
		n := rat(1, 1)
		for _, x := range l {
			n.Mul(n, x)
		}
		return n
	}
	add := func(l ...*big.Rat) *big.Rat {
		n := new(big.Rat)
		for _, x := range l {
			n.Add(n, x)
		}
		return n
	}
	cx, cy, f := rat(c[0], one), rat(c[1], one), rat(c[2], 1)
	k1, k2, p1, p2 := rat(c[3], one), rat(c[4], one), rat(c[5], one), rat(c[6], one)
	x := new(big.Rat).Quo(new(big.Rat).Sub(rat(p.px, p.d), cx), f)
	y := new(big.Rat).Quo(new(big.Rat).Sub(rat(p.py, p.d), cy), f)
	r, two := add(mul(x, x), mul(y, y)), rat(2, 1)
	g := add(rat(1, 1), mul(k1, r), mul(k2, r, r))
	u := add(cx, mul(f, add(mul(x, g), mul(two, p1, x, y), mul(p2, add(r, mul(two, x, x))))))
	v := add(cy, mul(f, add(mul(y, g), mul(p1, add(r, mul(two, y, y))), mul(two, p2, x, y))))
	return u, v
}

// near tells whether a number of parts is less than so many from what it would be.
func near(u int64, ideal *big.Rat, bound int64) bool {
	off := new(big.Rat).Sub(new(big.Rat).SetInt64(u), new(big.Rat).Mul(ideal, new(big.Rat).SetInt64(one)))
	return off.Abs(off).Cmp(new(big.Rat).SetInt64(bound)) < 0
}

func TestP20_3_Bound(t *testing.T) {
	for _, g := range glasses() {
		m := made(t, g)
		if m.Bound() != 12000*g.c[2] {
			t.Errorf("Bound of %v: %d", g, m.Bound())
		}
		for _, p := range append(places(), nearby(g)...) {
			u, v, e := m.At(p.px, p.py, p.d)
			x, y := ideal(g.c, p)
			if e == api.OK && (!near(u, x, 12000*g.c[2]) || !near(v, y, 12000*g.c[2])) {
				t.Fatalf("%v at %v: %d %d", g, p, u, v)
			}
		}
	}
	for f := int64(1); f <= focus; f *= 2 {
		if m := made(t, glass{lens.Plain(0, 0, f), 1, 1}); m.Bound() != 12000*f {
			t.Errorf("Bound of focus %d: %d", f, m.Bound())
		}
	}
}

func TestP20_4_Plain(t *testing.T) {
	for _, c := range [][3]int64{{0, 0, 1}, {one, -3 * one, 1}, {5, 7, 9}, {-move, move, focus}} {
		l := lens.Plain(c[0], c[1], c[2])
		if fmt.Sprint(l) != fmt.Sprint([]int64{c[0], c[1], c[2], 0, 0, 0, 0}) {
			t.Errorf("Plain(%v): %v", c, l)
		}
		clear(l)
		if again := lens.Plain(c[0], c[1], c[2]); again[2] != c[2] {
			t.Errorf("Plain(%v), again: %v", c, again)
		}
	}
	for _, c := range [][2]int64{{0, 0}, {one, 2 * one}, {3 * one, one}} {
		m := made(t, glass{lens.Plain(c[0], c[1], 1), 4, 4})
		for x := range int64(4) {
			for y := range int64(4) {
				if u, v, e := m.At(x, y, 1); u != x*one || v != y*one || e != api.OK {
					t.Errorf("Plain(%v) at %d, %d: %d %d %v", c, x, y, u, v, e)
				}
			}
		}
	}
}

// P2: a lens is what it was made of, whatever is written there later, and changes nothing of it.
func TestP2_Memory(t *testing.T) {
	for _, g := range glasses() {
		kept := slices.Clone(g.c)
		m := made(t, g)
		told := func() string {
			u, v, e := m.At(1, 0, 2)
			return fmt.Sprint(u, v, e, m.Bound())
		}
		before := told()
		if lens.Check(g.c, g.w, g.h); !slices.Equal(g.c, kept) {
			t.Fatalf("%v is now %v", kept, g.c)
		}
		clear(g.c)
		if after := told(); after != before {
			t.Fatalf("%v: %s, then %s", kept, before, after)
		}
	}
}

// every is what all calls tell.
func every(m *lens.Map, g glass, p place) string {
	u, v, e := m.At(p.px, p.py, p.d)
	made, code := lens.New(g.c, g.w, g.h)
	return fmt.Sprint(u, v, e, m.Bound(), made.Bound(), code, lens.Check(g.c, g.w, g.h), lens.Plain(p.px, p.py, p.d))
}

// P1 and P2: all end at all edges, wrong ones too, and tell the same again, whatever was called between.
func TestP1_P2_TheSameAgain(t *testing.T) {
	l, all := glasses(), append(places(), wrong()...)
	l = append(l, glass{nil, 1, 1}, glass{[]int64{1}, 0, 0}, glass{make([]int64, 7), 5, 5}, glass{l[0].c, math.MinInt, math.MaxInt}, glass{[]int64{move, -move, 1, 0, 0, 0, 0}, 1, 1})
	var kept []*lens.Map
	for _, g := range l {
		m, _ := lens.New(g.c, g.w, g.h)
		kept = append(kept, m)
	}
	told := func(i int) string { return every(kept[i%len(l)], l[i*7%len(l)], all[i*11%len(all)]) }
	var first []string
	for i := range 20000 {
		first = append(first, told(i))
	}
	for i := len(first) - 1; i >= 0; i-- {
		if again := told(i); again != first[i] {
			t.Fatalf("%d: %s, then %s", i, first[i], again)
		}
	}
}
