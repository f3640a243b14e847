package bound_test

import (
	"fmt"
	"math"
	"math/big"
	"testing"

	"anamorph/api"
	"anamorph/bound"
	"anamorph/lens"
	"anamorph/mesh"
	"anamorph/shear"
	"anamorph/xform"
)

const (
	one   = 65536
	slant = 1 << 18
	far   = 1 << 46
	end   = 1 << 20
)

// sight is a transform, for an image of a size.
type sight struct {
	t    api.Xform
	w, h int
}

// kinds are all, and exact those that are rounded just once.
var (
	kinds = []int{api.Affine, api.Homog, api.Lens, api.Mesh, api.Shear, api.Turn}
	exact = map[int]bool{api.Affine: true, api.Homog: true, api.Mesh: true, api.Turn: true}
)

// nothing are numbers of no kind.
var nothing = []int{0, -1, 7, 8, 1 << 32, 1<<32 + 1, math.MinInt, math.MaxInt}

// next is the next of numbers without any pattern, from -most to most.
func next(x *uint64, most int64) int64 {
	*x = *x*6364136223846793005 + 1442695040888963407
	return int64(*x>>31)%(2*most+1) - most
}

// sights are right ones of each kind.
func sights() []sight {
	of := func(kind, w, h int, c ...int64) sight { return sight{api.Xform{Kind: kind, C: c}, w, h} }
	l := []sight{
		of(api.Affine, 9, 9, one, 0, 0, 0, one, 0), of(api.Affine, 9, 9, 1<<24, -1<<24, -1<<31, 1<<24, 1<<24, 1<<31), of(api.Affine, 5, 4, 1, 0, 1<<31, 0, -1, 7), of(api.Affine, 9, 9, 3*one, one, -7, one/3, -one, 99), of(api.Affine, 9, 9, 3, 5, 7, 11, 13, 17),
		of(api.Homog, 9, 9, one, 0, 0, 0, one, 0, 0, 0, one), of(api.Homog, 16, 1, one, 0, 0, 0, one, 0, 4096, 0, one), of(api.Homog, 60, 70, one, 999, -one*9, -777, one, 5*one, 33, 44, -one), of(api.Homog, 9, 9, one, 7, 9, 5, -one, 0, 0, 0, -3*one),
		of(api.Lens, 9, 9, lens.Plain(0, 0, 3)...), of(api.Lens, 101, 81, 50*one, 40*one, 100, 9999, -5555, 777, -3333), of(api.Lens, 32768, 32768, 1<<31, -1<<31, 32768, one, one, -one, one), of(api.Lens, 4, 4, 0, 0, 1, one, one, one, one), of(api.Lens, 9, 8, one/3, 77, 5, -one, one, -one, -one), of(api.Lens, 20, 9, lens.Plain(10*one, 0, 3)...), of(api.Lens, 9, 20, lens.Plain(0, 10*one, 3)...),
		of(api.Mesh, 8, 8, mesh.Plain(4, 4, 2, 2)...), of(api.Mesh, 3, 2, 3, 2, 1, 1, -1<<31, 1<<31, 7, -9, 1<<31, 1<<31, 100, -1<<31), of(api.Mesh, 6, 7, 6, 7, 1, 1, 1, 2, 4, 8, 16, 32, 64, 128),
		of(api.Shear, 9, 9, shear.Quarter(1)...), of(api.Shear, 9, 9, shear.Quarter(0)...), of(api.Shear, 32768, 3, slant, -slant, 32768, -32768), of(api.Shear, 40, 50, -17560, 32768, 20, 25), of(api.Shear, 9, 9, 1, 1, 0, 0), of(api.Shear, 9, 9, -slant+1, slant-1, 0, 5),
		of(api.Turn, 3, 4, 1, 4, 3), of(api.Turn, 9, 1, 6, 32768, 32768), of(api.Turn, 5, 5, 7, 1, 9), of(api.Turn, 5, 5, 0, 2, 2),
	}
	x := uint64(17)
	for n := range 20 {
		var c []int64
		for _, most := range []int64{1 << 24, 1 << 24, 1 << 31, 1 << 24, 1 << 24, 1 << 31, 4096, 4096, 1 << 24} {
			c = append(c, next(&x, most>>(n%8)))
		}
		l = append(l, of(api.Affine, 5, 5, c[:6]...), of(api.Homog, 2, 2, c...))
		l = append(l, of(api.Shear, 5, 5, next(&x, slant), next(&x, slant), next(&x, 32768), next(&x, 32768)))
		l = append(l, of(api.Lens, 20, 20, next(&x, 9*one), next(&x, 9*one), next(&x, 40)+60, next(&x, one), next(&x, one), next(&x, one), next(&x, one)))
		m := []int64{int64(n + 1), int64(20 - n), 1, 1}
		for range 8 {
			m = append(m, next(&x, 1<<31>>n))
		}
		l = append(l, of(api.Mesh, 1, 1, m...))
	}
	var right []sight
	for _, s := range l {
		if xform.Check(s.t, s.w, s.h) == api.OK {
			right = append(right, s)
		}
	}
	return right
}

// bad are transforms that aren't right.
func bad() []sight {
	l := []sight{{api.Xform{Kind: api.Homog, C: []int64{one, 0, 0, 0, one, 0, 4096, 0, one}}, 17, 1}, {api.Xform{Kind: api.Mesh, C: mesh.Plain(2, 2, 2, 2)}, 5, 1}, {api.Xform{Kind: api.Affine, C: make([]int64, 6)}, 1, 1}, {api.Xform{Kind: api.Lens, C: lens.Plain(0, 0, 1)}, 5, 5}}
	for _, kind := range append(nothing, kinds...) {
		for _, c := range [][]int64{nil, {1}, {8, 1, 1}, {0, 0, 9}, {slant + 1, 0, 0, 0}, {1 << 40, 0, 0, 0, 1, 0}, {0, 0, 32769, 0, 0, 0, 0}} {
			l = append(l, sight{api.Xform{Kind: kind, C: c}, 1, 1}, sight{api.Xform{Kind: kind, C: c}, 0, 1}, sight{api.Xform{Kind: kind, C: c}, 1, 32769})
		}
	}
	return l
}

func TestP25_1_Of(t *testing.T) {
	for _, s := range sights() {
		x, y := int64(1), int64(1)
		switch s.t.Kind {
		case api.Lens:
			x, y = 12000*s.t.C[2], 12000*s.t.C[2]
		case api.Shear:
			m, _ := shear.New(s.t.C)
			x, y = m.Bounds()
		}
		if u, v, e := bound.Of(s.t, s.w, s.h); u != x || v != y || e != api.OK {
			t.Errorf("Of(%v): %d %d %v, not %d %d", s.t, u, v, e, x, y)
		}
	}
	if u, v, e := bound.Of(api.Xform{Kind: api.Shear, C: []int64{131072, -131070, 5, 6}}, 9, 9); u != 65536+196606 || v != 32768+65535 || e != api.OK {
		t.Error(u, v, e)
	}
}

func TestP25_1_WrongOnes(t *testing.T) {
	for _, s := range bad() {
		want := xform.Check(s.t, s.w, s.h)
		if want == api.OK {
			t.Fatalf("%v is right", s)
		}
		if u, v, e := bound.Of(s.t, s.w, s.h); u != 0 || v != 0 || e != want {
			t.Errorf("Of(%v): %d %d %v, not %v", s, u, v, e, want)
		}
	}
}

func TestP25_2_Worst(t *testing.T) {
	for _, kind := range kinds {
		x, y := int64(1), int64(1)
		switch kind {
		case api.Lens:
			x, y = 393216000, 393216000
		case api.Shear:
			x, y = 720896, 163840
		}
		if u, v := bound.Worst(kind); u != x || v != y {
			t.Errorf("Worst(%d): %d %d", kind, u, v)
		}
		if bound.Exact(kind) != exact[kind] {
			t.Errorf("Exact(%d): %v", kind, bound.Exact(kind))
		}
	}
	for _, kind := range nothing {
		if u, v := bound.Worst(kind); u != 0 || v != 0 || bound.Exact(kind) {
			t.Errorf("kind %d: %d %d %v", kind, u, v, bound.Exact(kind))
		}
	}
}

func TestP25_3_NoMoreThanWorst(t *testing.T) {
	for _, s := range sights() {
		u, v, _ := bound.Of(s.t, s.w, s.h)
		if a, b := bound.Worst(s.t.Kind); u > a || v > b || u < 1 || v < 1 {
			t.Errorf("Of(%v): %d %d, but Worst %d %d", s.t, u, v, a, b)
		}
	}
	for _, c := range [][]int64{{slant, slant, 0, 0}, {-slant, slant, 1, 1}} { // and there is one that is as far off as Worst
		if u, v, _ := bound.Of(api.Xform{Kind: api.Shear, C: c}, 1, 1); u != 720896 || v != 163840 {
			t.Errorf("Of(%v): %d %d", c, u, v)
		}
	}
	if u, v, _ := bound.Of(api.Xform{Kind: api.Lens, C: lens.Plain(0, 0, 32768)}, 1, 1); u != 393216000 || v != 393216000 {
		t.Error(u, v)
	}
}

// rat is a number of any size, exactly.
type rat = *big.Rat

func of(x int64) rat { return big.NewRat(x, 1) }

func plus(l ...rat) rat {
	n := new(big.Rat)
	for _, x := range l {
		n.Add(n, x)
	}
	return n
}

func times(l ...rat) rat {
	n := of(1)
	for _, x := range l {
		n.Mul(n, x)
	}
	return n
}

func less(a, b rat) rat { return new(big.Rat).Sub(a, b) }

func by(a, b rat) rat { return new(big.Rat).Quo(a, b) }

// rats are numbers, exactly.
func rats(c []int64) []rat {
	var l []rat
	for _, x := range c {
		l = append(l, of(x))
	}
	return l
}

// lines tells of a map of straight lines, by Cramer's rule: which column and row come to x, y.
func lines(n []int64, x, y rat) (rat, rat) {
	c := rats(n)
	// u (a - g x) + v (b - h x) = i x - c, u (d - g y) + v (e - h y) = i y - f
	a, b, p := less(c[0], times(c[6], x)), less(c[1], times(c[7], x)), less(times(c[8], x), c[2])
	d, e, q := less(c[3], times(c[6], y)), less(c[4], times(c[7], y)), less(times(c[8], y), c[5])
	det := less(times(a, e), times(b, d))
	if det.Sign() == 0 {
		return nil, nil
	}
	return by(less(times(p, e), times(b, q)), det), by(less(times(a, q), times(p, d)), det)
}

// bent tells of a lens.
func bent(n []int64, x, y rat) (rat, rat) {
	c := rats(n)
	for i := range c {
		if i != 2 {
			c[i] = by(c[i], of(one))
		}
	}
	x, y = by(less(x, c[0]), c[2]), by(less(y, c[1]), c[2])
	r := plus(times(x, x), times(y, y))
	g := plus(of(1), times(c[3], r), times(c[4], r, r))
	u := plus(times(x, g), times(of(2), c[5], x, y), times(c[6], plus(r, times(of(2), x, x))))
	v := plus(times(y, g), times(c[5], plus(r, times(of(2), y, y))), times(of(2), c[6], x, y))
	return plus(c[0], times(c[2], u)), plus(c[1], times(c[2], v))
}

// between tells of a mesh of one cell, or of one that changes nothing.
func between(n []int64, x, y rat) (rat, rat) {
	c := rats(n)
	inside := func(x, most rat) rat {
		if x.Sign() < 0 {
			return of(0)
		}
		if x.Cmp(most) > 0 {
			return most
		}
		return x
	}
	x, y = inside(x, times(c[0], c[2])), inside(y, times(c[1], c[3]))
	if n[2] > 1 {
		return x, y
	}
	s, t := by(x, c[0]), by(y, c[1])
	mix := func(at int) rat {
		upper := plus(times(less(of(1), s), c[at]), times(s, c[at+2]))
		lower := plus(times(less(of(1), s), c[at+4]), times(s, c[at+6]))
		return by(plus(times(less(of(1), t), upper), times(t, lower)), of(one))
	}
	return mix(4), mix(5)
}

// slanted tells of slants.
func slanted(n []int64, x, y rat) (rat, rat) {
	c := rats(n)
	a, b := by(c[0], of(one)), by(c[1], of(one))
	x, y = less(x, c[2]), less(y, c[3])
	x = plus(x, times(a, y))
	y = plus(y, times(b, x))
	x = plus(x, times(a, y))
	return plus(x, c[2]), plus(y, c[3])
}

// turned tells of a turn.
func turned(n []int64, x, y rat) (rat, rat) {
	w, h := of(n[1]-1), of(n[2]-1)
	u, v := x, y
	switch n[0] % 4 {
	case 1:
		u, v = y, less(h, x)
	case 2:
		u, v = less(w, x), less(h, y)
	case 3:
		u, v = less(w, y), x
	}
	if n[0] > 3 {
		u = less(w, u)
	}
	return u, v
}

// ideal is what a transform would tell without any rounding, in parts; nil: nothing.
func ideal(s sight, px, py, d int64) (rat, rat) {
	x, y := big.NewRat(px, d), big.NewRat(py, d)
	var u, v rat
	switch s.t.Kind {
	case api.Affine:
		u, v = lines(append(append([]int64{}, s.t.C...), 0, 0, one), x, y)
	case api.Homog:
		u, v = lines(s.t.C, x, y)
	case api.Lens:
		u, v = bent(s.t.C, x, y)
	case api.Mesh:
		u, v = between(s.t.C, x, y)
	case api.Shear:
		u, v = slanted(s.t.C, x, y)
	default:
		u, v = turned(s.t.C, x, y)
	}
	if u == nil {
		return nil, nil
	}
	return times(u, of(one)), times(v, of(one))
}

// near tells whether what is told is as near to what it would be as may be.
func near(kind int, told int64, ideal rat, bound int64) bool {
	off := less(ideal, of(told))
	switch {
	case exact[kind]:
		return off.Sign() >= 0 && off.Cmp(of(1)) < 0
	case kind == api.Shear:
		return off.Abs(off).Cmp(of(bound)) <= 0
	}
	return off.Abs(off).Cmp(of(bound)) < 0
}

func TestP25_3_HowNear(t *testing.T) {
	seen := map[int]int{}
	for _, s := range sights() {
		m, _ := xform.New(s.t, s.w, s.h)
		a, b, _ := bound.Of(s.t, s.w, s.h)
		for n := range int64(500) {
			d := n%16 + 1
			px, py := (n*7%41-9)*d+n%5, (n*11%37-7)*d-n%3
			if n%50 == 0 {
				px, py, d = end-n, n*n-end, 1
			}
			if s.t.Kind == api.Shear {
				d = 1
			}
			u, v, e := m.At(px, py, d)
			x, y := ideal(s, px, py, d)
			if e != api.OK || max(u, -u) == far || max(v, -v) == far {
				continue
			}
			seen[s.t.Kind]++
			if x == nil || !near(s.t.Kind, u, x, a) || !near(s.t.Kind, v, y, b) {
				t.Fatalf("%v at %d, %d, %d: %d %d, not %v %v", s.t, px, py, d, u, v, x, y)
			}
		}
	}
	for _, kind := range kinds {
		if seen[kind] < 1000 {
			t.Errorf("of kind %d only %d were told", kind, seen[kind])
		}
	}
}

// every is what all calls tell.
func every(s sight) string {
	u, v, e := bound.Of(s.t, s.w, s.h)
	a, b := bound.Worst(s.t.Kind)
	return fmt.Sprint(u, v, e, a, b, bound.Exact(s.t.Kind))
}

// P1 and P2: all end at all edges, wrong ones too, and tell the same again, whatever was called between; what is handed in stays.
func TestP1_P2_TheSameAgain(t *testing.T) {
	l := append(sights(), bad()...)
	kept := fmt.Sprint(l)
	var first []string
	for _, s := range l {
		first = append(first, every(s))
	}
	for i := len(l) - 1; i >= 0; i-- {
		if again := every(l[i]); again != first[i] {
			t.Fatalf("%v: %s, then %s", l[i], first[i], again)
		}
	}
	if fmt.Sprint(l) != kept {
		t.Error("what was handed in is changed")
	}
}
