package shear_test

import (
	"fmt"
	"math"
	"math/big"
	"slices"
	"testing"

	"anamorph/api"
	"anamorph/shear"
)

const (
	slant = 1 << 18
	side  = 32768
	one   = 65536
	end   = 1 << 20
	far   = 1 << 29
)

// limits are how far from 0 each number may be.
var limits = []int64{slant, slant, side, side}

// slants are right ones: quarters, small ones, such as round halves, and such as lie at the ends.
func slants() [][]int64 {
	l := [][]int64{
		{0, 0, 0, 0}, {-one, one, 0, 0}, {one, -one, 0, 0}, {-one, one, 1, 1}, {one, 0, 3, 4}, {0, one, -3, 7}, {0, -one, 5, 5}, {one / 2, 0, 0, 0}, {0, one / 2, 0, 0}, {-one / 2, one / 2, 1, 0},
		{1, -1, 0, 0}, {-1, 1, 2, 3}, {32767, -32769, 0, 1}, {32769, 32767, 0, 1}, {-17560, 32768, 8, 8}, {slant, slant, side, side}, {-slant, slant, -side, side}, {slant, -slant, side, -side}, {-slant, -slant, -side, -side}, {slant - 1, 1 - slant, 1, -1},
	}
	x := uint64(13)
	for n := range 40 { // and some without any pattern
		c := make([]int64, 4)
		for i, most := range limits {
			x = x*6364136223846793005 + 1442695040888963407
			c[i] = int64(x>>33)%(2*(most>>(n%8))+1) - most>>(n%8)
		}
		l = append(l, c)
	}
	return l
}

// place is px divided by d, py divided by d.
type place struct{ px, py, d int64 }

// places are right ones.
func places() []place {
	l := []place{{end, end, 1}, {-end, -end, 1}, {end, -end, 16}, {-end, end, 16}, {0, -end, 7}, {end, 5, 3}}
	for _, d := range []int64{1, 2, 3, 15, 16} {
		for _, px := range []int64{0, 1, -1, 2, -2, 3, -7, 8, -8, 24, -24, 99, 32767} {
			for _, py := range []int64{0, 1, -1, 5, -5, 7, -8, 23, 8191, -1000} {
				l = append(l, place{px, py, d})
			}
		}
	}
	return l
}

// wrong are places that aren't right.
func wrong() []place {
	l := []place{{0, 0, 0}, {0, 0, -1}, {0, 0, 17}, {0, 0, -16}, {1, 1, math.MinInt64}, {1, 1, math.MaxInt64}}
	for _, p := range []int64{end + 1, -end - 1, 1 << 32, math.MinInt64, math.MaxInt64} {
		l = append(l, place{p, 0, 1}, place{0, p, 1}, place{p, p, 16}, place{p, -p, 0})
	}
	return l
}

// near is a quotient by a number above 0, rounded to the nearer number, of two the greater one.
func near(a *big.Int, b int64) *big.Int {
	twice := new(big.Int).Lsh(a, 1)
	return twice.Div(twice.Add(twice, big.NewInt(b)), big.NewInt(2*b)) // of a divisor above 0 Div rounds down
}

// moved is x, and the rounded part that a slant tells of z: on, or back.
func moved(x *big.Int, slant int64, z *big.Int, way int64) *big.Int {
	by := near(new(big.Int).Mul(big.NewInt(slant), z), one)
	return new(big.Int).Add(x, by.Mul(by, big.NewInt(way)))
}

// want is the pixel that a place comes from, as the document tells it.
func want(c []int64, p place) (int64, int64) {
	x0 := new(big.Int).Sub(near(big.NewInt(p.px), p.d), big.NewInt(c[2]))
	y0 := new(big.Int).Sub(near(big.NewInt(p.py), p.d), big.NewInt(c[3]))
	x1 := moved(x0, c[0], y0, 1)
	y1 := moved(y0, c[1], x1, 1)
	x2 := moved(x1, c[0], y1, 1)
	return x2.Int64() + c[2], y1.Int64() + c[3]
}

// undone is the pixel that comes from a place, as the document tells it.
func undone(c []int64, x, y int64) (int64, int64) {
	x2, y1 := big.NewInt(x-c[2]), big.NewInt(y-c[3])
	x1 := moved(x2, c[0], y1, -1)
	y0 := moved(y1, c[1], x1, -1)
	x0 := moved(x1, c[0], y0, -1)
	return x0.Int64() + c[2], y0.Int64() + c[3]
}

// made is what turns by right slants.
func made(t *testing.T, c []int64) *shear.Map {
	t.Helper()
	m, e := shear.New(c)
	if m == nil || e != api.OK {
		t.Fatalf("New(%v): %v", c, e)
	}
	return m
}

// checked checks the code of slants.
func checked(t *testing.T, c []int64, want api.Errno) {
	t.Helper()
	if e := shear.Check(c); e != want {
		t.Errorf("Check(%v): %v, not %v", c, e, want)
	}
	if m, e := shear.New(c); e != want || (m == nil) != (want != api.OK) {
		t.Errorf("New(%v): %v %v, not %v", c, m, e, want)
	}
}

func TestP22_1_Right(t *testing.T) {
	for n := range 12 {
		if n != 4 {
			checked(t, make([]int64, n), api.ErrSize)
			checked(t, slices.Repeat([]int64{math.MinInt64}, n), api.ErrSize)
		}
	}
	checked(t, nil, api.ErrSize)
	for i, most := range limits {
		for _, x := range []int64{most, -most, most - 1, 0} {
			c := []int64{1, 2, 3, 4}
			c[i] = x
			checked(t, c, api.OK)
		}
		for _, x := range []int64{most + 1, -most - 1, 1 << 40, math.MinInt64, math.MaxInt64, math.MinInt64 + 1} {
			c := []int64{1, 2, 3, 4}
			c[i] = x
			checked(t, c, api.ErrRange)
		}
	}
	for _, c := range slants() {
		checked(t, c, api.OK)
	}
}

func TestP22_2_ByHand(t *testing.T) {
	for _, c := range []struct {
		c    []int64
		p    place
		x, y int64
	}{
		{[]int64{-one, one, 0, 0}, place{2, 3, 1}, -3, 2},
		{[]int64{-one, one, 1, 1}, place{0, 0, 1}, 2, 0}, {[]int64{-one, one, 1, 1}, place{2, 1, 1}, 1, 2}, // the document's fifth example
		{[]int64{one / 2, 0, 0, 0}, place{0, 1, 1}, 2, 1},   // 0.5 goes up, twice
		{[]int64{one / 2, 0, 0, 0}, place{0, -1, 1}, 0, -1}, // -0.5 goes up, too
		{[]int64{-one / 2, 0, 0, 0}, place{0, 1, 1}, 0, 1}, {[]int64{-one / 2, 0, 0, 0}, place{0, -3, 1}, 4, -3},
		{[]int64{0, one / 2, 0, 0}, place{3, 0, 1}, 3, 2}, {[]int64{0, one / 2, 0, 0}, place{-3, 0, 1}, -3, -1}, {[]int64{0, one/2 - 1, 0, 0}, place{1, 0, 1}, 1, 0},
		{[]int64{0, one, 10, 20}, place{12, 20, 1}, 12, 22}, {[]int64{one, 0, 10, 20}, place{10, 21, 1}, 12, 21},
		{[]int64{one, one, 0, 0}, place{1, 2, 1}, 8, 5}, // 1 + 2, 2 + 3, 3 + 5
		{[]int64{0, 0, 0, 0}, place{1, -1, 2}, 1, 0}, {[]int64{0, 0, 0, 0}, place{7, -8, 16}, 0, 0}, {[]int64{0, 0, 0, 0}, place{8, -9, 16}, 1, -1}, {[]int64{0, 0, 0, 0}, place{1, 2, 3}, 0, 1}, {[]int64{0, 0, 0, 0}, place{-3, 3, 2}, -1, 2},
		{[]int64{0, 0, 1, 1}, place{1, 1, 2}, 1, 1}, {[]int64{one, 0, 5, 1}, place{9, 5, 2}, 9, 3}, // 4.5 is 5, 2.5 is 3
	} {
		u, v, e := made(t, c.c).At(c.p.px, c.p.py, c.p.d)
		if u != c.x*one || v != c.y*one || e != api.OK {
			t.Errorf("%v at %v: %d %d %v, not %d %d", c.c, c.p, u, v, e, c.x*one, c.y*one)
		}
	}
}

func TestP22_2_At(t *testing.T) {
	for _, c := range slants() {
		m := made(t, c)
		for _, p := range places() {
			u, v, e := m.At(p.px, p.py, p.d)
			if x, y := want(c, p); u != x*one || v != y*one || e != api.OK {
				t.Fatalf("%v at %v: %d %d %v, not %d %d", c, p, u, v, e, x*one, y*one)
			}
		}
	}
}

func TestP22_2_WrongOnes(t *testing.T) {
	var none *shear.Map
	m := made(t, []int64{1, 2, 3, 4})
	for _, p := range wrong() {
		if u, v, e := m.At(p.px, p.py, p.d); u != 0 || v != 0 || e != api.ErrRange {
			t.Errorf("at %v: %d %d %v", p, u, v, e)
		}
	}
	for _, p := range append(wrong(), places()...) {
		if u, v, e := none.At(p.px, p.py, p.d); u != 0 || v != 0 || e != api.ErrArg {
			t.Errorf("none at %v: %d %d %v", p, u, v, e)
		}
	}
}

// pixels are such that Back may be asked of.
var pixels = []int64{0, 1, -1, 2, -3, 7, 100, -32768, 32767, end, -end, 1<<28 + 1, far - 1, far, 1 - far, -far}

func TestP22_3_Back(t *testing.T) {
	for _, c := range slants() {
		m := made(t, c)
		for _, x := range pixels {
			for _, y := range pixels {
				a, b, is := m.Back(x, y)
				if i, k := undone(c, x, y); a != i || b != k || !is {
					t.Fatalf("Back of %v at %d, %d: %d %d %v, not %d %d", c, x, y, a, b, is, i, k)
				}
				if max(a, -a, b, -b) <= end {
					if u, v, e := m.At(a, b, 1); u != x*one || v != y*one || e != api.OK {
						t.Fatalf("Back of %v at %d, %d: %d %d, which comes from %d %d %v", c, x, y, a, b, u, v, e)
					}
				}
			}
		}
	}
}

func TestP22_3_BackOfAt(t *testing.T) {
	for _, c := range slants() {
		m := made(t, c)
		for _, p := range places() {
			if p.d > 1 {
				continue
			}
			u, v, _ := m.At(p.px, p.py, 1)
			if x, y, is := m.Back(u/one, v/one); x != p.px || y != p.py || !is {
				t.Fatalf("%v at %v: from %d %d, and Back %d %d %v", c, p, u, v, x, y, is)
			}
		}
	}
}

// Each pixel of a square goes to one that no other one goes to.
func TestP22_3_JustOne(t *testing.T) {
	for _, c := range slants() {
		m := made(t, c)
		seen := map[[2]int64]bool{}
		for x := int64(-9); x <= 9; x++ {
			for y := int64(-9); y <= 9; y++ {
				u, v, _ := m.At(x, y, 1)
				if seen[[2]int64{u, v}] || u%one != 0 || v%one != 0 {
					t.Fatalf("%v at %d, %d: %d %d", c, x, y, u, v)
				}
				seen[[2]int64{u, v}] = true
			}
		}
	}
}

func TestP22_3_WrongOnes(t *testing.T) {
	var none *shear.Map
	m := made(t, []int64{1, 2, 3, 4})
	for _, x := range []int64{far + 1, -far - 1, 1 << 40, math.MinInt64, math.MaxInt64} {
		for _, p := range [][2]int64{{x, 0}, {0, x}, {x, x}, {x, far}, {-far, x}} {
			if a, b, is := m.Back(p[0], p[1]); a != 0 || b != 0 || is {
				t.Errorf("Back at %v: %d %d %v", p, a, b, is)
			}
		}
	}
	for _, x := range append(pixels, far+1, math.MinInt64) {
		if a, b, is := none.Back(x, 1); a != 0 || b != 0 || is {
			t.Errorf("Back of none: %d %d %v", a, b, is)
		}
	}
}

// up is a quotient of numbers above 0, rounded up.
func up(a, b int64) int64 { return (a + b - 1) / b }

func TestP22_4_Bounds(t *testing.T) {
	for _, c := range slants() {
		a, b := max(c[0], -c[0]), max(c[1], -c[1])
		u, v := made(t, c).Bounds()
		if u != one+up(a*(one+b), 2*one) || v != one/2+up(b, 2) {
			t.Errorf("Bounds of %v: %d %d", c, u, v)
		}
	}
	for _, c := range []struct{ a, b, u, v int64 }{{0, 0, 65536, 32768}, {1, 0, 65537, 32768}, {-1, 1, 65537, 32769}, {2, -2, 65538, 32769}, {3, -3, 65538, 32770}, {one, one, 131072, 65536}, {slant, slant, 720896, 163840}, {-slant, -slant, 720896, 163840}, {131072, 0, 131072, 32768}, {131073, 0, 131073, 32768}} {
		if u, v := made(t, []int64{c.a, c.b, 7, -9}).Bounds(); u != c.u || v != c.v {
			t.Errorf("Bounds of %v: %d %d", c, u, v)
		}
	}
	var none *shear.Map
	if u, v := none.Bounds(); u != 0 || v != 0 {
		t.Error("Bounds of none:", u, v)
	}
}

// ideal is where a pixel would come from without any rounding.
func ideal(c []int64, x, y int64) (*big.Rat, *big.Rat) {
	a, b := big.NewRat(c[0], one), big.NewRat(c[1], one)
	on := func(x, slant, z *big.Rat) *big.Rat {
		by := new(big.Rat).Mul(slant, z)
		return by.Add(by, x)
	}
	x0, y0 := big.NewRat(x-c[2], 1), big.NewRat(y-c[3], 1)
	x1 := on(x0, a, y0)
	y1 := on(y0, b, x1)
	x2 := on(x1, a, y1)
	return x2.Add(x2, big.NewRat(c[2], 1)), y1.Add(y1, big.NewRat(c[3], 1))
}

// off is how many parts a number is from what it would be.
func off(u int64, ideal *big.Rat) *big.Rat {
	d := new(big.Rat).Sub(big.NewRat(u, one), ideal)
	return d.Abs(d).Mul(d, big.NewRat(one, 1))
}

func TestP22_4_HowNear(t *testing.T) {
	for _, c := range slants() {
		m := made(t, c)
		a, b := m.Bounds()
		for _, p := range places() {
			if p.d > 1 {
				continue
			}
			u, v, _ := m.At(p.px, p.py, 1)
			x, y := ideal(c, p.px, p.py)
			if off(u, x).Cmp(big.NewRat(a, 1)) > 0 || off(v, y).Cmp(big.NewRat(b, 1)) > 0 {
				t.Fatalf("%v at %v: %d %d, off by %v %v", c, p, u, v, off(u, x), off(v, y))
			}
		}
	}
}

func TestP22_5_Quarters(t *testing.T) {
	for q, want := range []string{"[0 0 0 0]", "[-65536 65536 0 0]", "[]", "[65536 -65536 0 0]", "[]", "[]"} {
		if c := shear.Quarter(q); fmt.Sprint(c) != want {
			t.Errorf("Quarter(%d): %v", q, c)
		}
		clear(shear.Quarter(q))
	}
	for _, q := range []int{2, 4, 5, -1, -3, math.MinInt, math.MaxInt} {
		if c := shear.Quarter(q); len(c) != 0 {
			t.Errorf("Quarter(%d): %v", q, c)
		}
	}
	for x := int64(-5); x <= 5; x++ {
		for y := int64(-5); y <= 5; y++ {
			for q, want := range map[int][2]int64{0: {x, y}, 1: {-y, x}, 3: {y, -x}} {
				if u, v, e := made(t, shear.Quarter(q)).At(x, y, 1); u != want[0]*one || v != want[1]*one || e != api.OK {
					t.Errorf("Quarter(%d) at %d, %d: %d %d %v", q, x, y, u, v, e)
				}
			}
		}
	}
}

// P2: what turns is what it was made of, whatever is written there later, and changes nothing of it.
func TestP2_Memory(t *testing.T) {
	for _, c := range slants() {
		kept := slices.Clone(c)
		m := made(t, c)
		told := func() string {
			u, v, e := m.At(100, -77, 1)
			x, y, is := m.Back(1000, 77)
			a, b := m.Bounds()
			return fmt.Sprint(u, v, e, x, y, is, a, b)
		}
		before := told()
		if shear.Check(c); !slices.Equal(c, kept) {
			t.Fatalf("%v is now %v", kept, c)
		}
		clear(c)
		if after := told(); after != before {
			t.Fatalf("%v: %s, then %s", kept, before, after)
		}
	}
}

// every is what all calls tell.
func every(m *shear.Map, c []int64, p place) string {
	u, v, e := m.At(p.px, p.py, p.d)
	x, y, is := m.Back(p.px, p.py)
	a, b := m.Bounds()
	_, code := shear.New(c)
	return fmt.Sprint(u, v, e, x, y, is, a, b, code, shear.Check(c), shear.Quarter(int(p.px)))
}

// P1 and P2: all end at all edges, wrong ones too, and tell the same again, whatever was called between.
func TestP1_P2_TheSameAgain(t *testing.T) {
	l, all := slants(), append(places(), wrong()...)
	l = append(l, nil, []int64{1}, []int64{math.MinInt64, 0, 0, 0}, []int64{0, 0, 0, math.MaxInt64})
	var kept []*shear.Map
	for _, c := range l {
		m, _ := shear.New(c)
		kept = append(kept, m)
	}
	told := func(i int) string { return every(kept[i%len(l)], l[i*7%len(l)], all[i*11%len(all)]) }
	var first []string
	for i := range 20000 {
		first = append(first, told(i))
	}
	for i := len(first) - 1; i >= 0; i-- {
		if again := told(i); again != first[i] {
			t.Fatalf("%d: %s, then %s", i, first[i], again)
		}
	}
}
