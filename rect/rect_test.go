package rect_test

import (
	"fmt"
	"math"
	"math/big"
	"testing"

	"anamorph/api"
	"anamorph/rect"
)

// far is how far from 0 a number of a rectangle may be.
const far = 1 << 31

// ends are numbers around the ends of the range, some of them outside.
var ends = []int{math.MinInt, -far - 1, -far, -far + 1, -1, 0, 1, 2, far - 1, far, far + 1, math.MaxInt}

// wrong are rectangles that aren't right: each number by itself is too far away.
func wrong() []api.Rect {
	var l []api.Rect
	for _, x := range []int{math.MinInt, -far - 1, far + 1, math.MaxInt} {
		l = append(l, api.Rect{X0: x, Y0: 0, X1: 4, Y1: 4}, api.Rect{X0: 0, Y0: x, X1: 4, Y1: 4})
		l = append(l, api.Rect{X0: 0, Y0: 0, X1: x, Y1: 4}, api.Rect{X0: 0, Y0: 0, X1: 4, Y1: x})
		l = append(l, api.Rect{X0: x, Y0: x, X1: x, Y1: x})
	}
	return append(l, api.Rect{X0: math.MinInt, Y0: math.MinInt, X1: math.MaxInt, Y1: math.MaxInt})
}

// small are all rectangles with numbers from -2 to 2, empty and turned ones too.
func small() []api.Rect {
	var l []api.Rect
	for x0 := -2; x0 <= 2; x0++ {
		for y0 := -2; y0 <= 2; y0++ {
			for x1 := -2; x1 <= 2; x1++ {
				for y1 := -2; y1 <= 2; y1++ {
					l = append(l, api.Rect{X0: x0, Y0: y0, X1: x1, Y1: y1})
				}
			}
		}
	}
	return l
}

// large are rectangles at the ends of the range.
func large() []api.Rect {
	var l []api.Rect
	numbers := []int{-far, -far + 1, 0, far - 1, far}
	for _, x0 := range numbers {
		for _, y0 := range numbers {
			for _, x1 := range numbers {
				for _, y1 := range numbers {
					l = append(l, api.Rect{X0: x0, Y0: y0, X1: x1, Y1: y1})
				}
			}
		}
	}
	return l
}

// side is how many places a row of a set has, half of them below 0.
const side = 8

// bit is a place's bit in a set.
func bit(x, y int) uint64 { return 1 << ((y+side/2)*side + x + side/2) }

// places is the set of a small rectangle's places.
func places(r api.Rect) uint64 {
	var set uint64
	for y := r.Y0; y < r.Y1; y++ {
		for x := r.X0; x < r.X1; x++ {
			set |= bit(x, y)
		}
	}
	return set
}

// hull is the least rectangle that has all places of a set.
func hull(set uint64) api.Rect {
	if set == 0 {
		return api.Rect{}
	}
	r := api.Rect{X0: side, Y0: side, X1: -side, Y1: -side}
	for y := -side / 2; y < side/2; y++ {
		for x := -side / 2; x < side/2; x++ {
			if set&bit(x, y) != 0 {
				r = api.Rect{X0: min(r.X0, x), Y0: min(r.Y0, y), X1: max(r.X1, x+1), Y1: max(r.Y1, y+1)}
			}
		}
	}
	return r
}

func TestP6_1_Right(t *testing.T) {
	for _, x := range ends {
		want := -far <= x && x <= far
		for _, r := range []api.Rect{{X0: x}, {Y0: x}, {X1: x}, {Y1: x}, {X0: x, Y0: x, X1: x, Y1: x}} {
			if rect.Right(r) != want {
				t.Errorf("Right(%v): %v", r, !want)
			}
		}
	}
	for _, r := range wrong() {
		if rect.Right(r) {
			t.Errorf("Right(%v)", r)
		}
	}
	for _, r := range large() {
		if !rect.Right(r) {
			t.Errorf("not Right(%v)", r)
		}
	}
}

func TestP6_1_WrongOnes(t *testing.T) {
	one := api.Rect{X0: -1, Y0: -1, X1: 3, Y1: 3}
	for _, w := range wrong() {
		if !rect.Empty(w) || rect.Norm(w) != (api.Rect{}) || rect.Area(w) != 0 || rect.Grow(w, 5) != (api.Rect{}) {
			t.Errorf("%v: %v %v %v %v", w, rect.Empty(w), rect.Norm(w), rect.Area(w), rect.Grow(w, 5))
		}
		for _, x := range ends {
			if rect.Has(w, x, x) || rect.Has(w, x, 1) || rect.Has(w, 1, x) {
				t.Errorf("Has(%v) around %d", w, x)
			}
		}
		if !rect.In(w, one) || rect.In(one, w) || !rect.In(w, w) || !rect.In(w, api.Rect{}) || !rect.In(api.Rect{}, w) {
			t.Errorf("In of %v", w)
		}
		if r := rect.Both(w, one); r != (api.Rect{}) {
			t.Errorf("Both(%v, %v): %v", w, one, r)
		}
		if r := rect.Both(one, w); r != (api.Rect{}) {
			t.Errorf("Both(%v, %v): %v", one, w, r)
		}
		if a, b := rect.Around(w, one), rect.Around(one, w); a != one || b != one {
			t.Errorf("Around of %v: %v, %v", w, a, b)
		}
		if r := rect.Around(w, w); r != (api.Rect{}) {
			t.Errorf("Around(%v) twice: %v", w, r)
		}
		for x, y := range rect.Places(w) {
			t.Fatalf("%v has %d, %d", w, x, y)
		}
	}
}

func TestP6_1_WrongBy(t *testing.T) {
	one := api.Rect{X0: 1, Y0: 2, X1: 5, Y1: 4}
	for _, by := range []int{math.MinInt, -far - 1, far + 1, math.MaxInt} {
		if r := rect.Grow(one, by); r != one {
			t.Errorf("Grow by %d: %v", by, r)
		}
		if r := rect.Grow(api.Rect{X0: 3, X1: 3, Y1: 3}, by); r != (api.Rect{}) {
			t.Errorf("Grow of nothing by %d: %v", by, r)
		}
	}
	for _, c := range []struct {
		by   int
		want api.Rect
	}{{-far, api.Rect{}}, {far, api.Rect{X0: -far + 1, Y0: -far + 2, X1: far, Y1: far}}} {
		if r := rect.Grow(one, c.by); r != c.want {
			t.Errorf("Grow by %d: %v, not %v", c.by, r, c.want)
		}
	}
}

func TestP6_2_OfOne(t *testing.T) {
	for _, r := range small() {
		set := places(r)
		if rect.Empty(r) != (set == 0) {
			t.Errorf("Empty(%v): %v", r, rect.Empty(r))
		}
		if n := rect.Norm(r); n != hull(set) {
			t.Errorf("Norm(%v): %v", r, n)
		}
		n := 0
		for y := -4; y < 4; y++ {
			for x := -4; x < 4; x++ {
				has := set&bit(x, y) != 0
				if rect.Has(r, x, y) != has {
					t.Errorf("Has(%v, %d, %d): %v", r, x, y, !has)
				}
				if has {
					n++
				}
			}
		}
		if rect.Area(r) != n {
			t.Errorf("Area(%v): %d, not %d", r, rect.Area(r), n)
		}
	}
}

func TestP6_2_OfTwo(t *testing.T) {
	for _, a := range small() {
		for _, b := range small() {
			p, q := places(a), places(b)
			if is := rect.In(a, b); is != (p&^q == 0) {
				t.Fatalf("In(%v, %v): %v", a, b, is)
			}
			if r := rect.Both(a, b); r != hull(p&q) {
				t.Fatalf("Both(%v, %v): %v", a, b, r)
			}
			if r := rect.Around(a, b); r != hull(p|q) {
				t.Fatalf("Around(%v, %v): %v", a, b, r)
			}
		}
	}
	if r := rect.Both(api.Rect{X1: 4, Y1: 4}, api.Rect{X0: 2, Y0: 1, X1: 9, Y1: 3}); r != (api.Rect{X0: 2, Y0: 1, X1: 4, Y1: 3}) {
		t.Errorf("the example of Both: %v", r)
	}
}

func TestP6_2_Grow(t *testing.T) {
	for _, r := range small() {
		for by := -3; by <= 5; by++ {
			want := api.Rect{X0: r.X0 - by, Y0: r.Y0 - by, X1: r.X1 + by, Y1: r.Y1 + by}
			if places(r) == 0 || want.X0 >= want.X1 || want.Y0 >= want.Y1 {
				want = api.Rect{}
			}
			if g := rect.Grow(r, by); g != want {
				t.Fatalf("Grow(%v, %d): %v, not %v", r, by, g, want)
			}
		}
	}
	for _, c := range []struct {
		r    api.Rect
		by   int
		want api.Rect
	}{
		{api.Rect{X0: 1, Y0: 1, X1: 2, Y1: 2}, -1, api.Rect{}},
		{api.Rect{X0: -far + 3, Y0: 0, X1: 1, Y1: 1}, 2, api.Rect{X0: -far + 1, Y0: -2, X1: 3, Y1: 3}},
		{api.Rect{X0: -far + 3, Y0: 0, X1: 1, Y1: 1}, 3, api.Rect{X0: -far, Y0: -3, X1: 4, Y1: 4}},
		{api.Rect{X0: -far + 3, Y0: 0, X1: 1, Y1: 1}, 4, api.Rect{X0: -far, Y0: -4, X1: 5, Y1: 5}},
		{api.Rect{X0: 0, Y0: -far + 3, X1: 1, Y1: 1}, 4, api.Rect{X0: -4, Y0: -far, X1: 5, Y1: 5}},
		{api.Rect{X0: 0, Y0: 0, X1: far - 3, Y1: 1}, 3, api.Rect{X0: -3, Y0: -3, X1: far, Y1: 4}},
		{api.Rect{X0: 0, Y0: 0, X1: far - 3, Y1: 1}, 4, api.Rect{X0: -4, Y0: -4, X1: far, Y1: 5}},
		{api.Rect{X0: 0, Y0: 0, X1: 1, Y1: far - 3}, 4, api.Rect{X0: -4, Y0: -4, X1: 5, Y1: far}},
		{api.Rect{X0: -far, Y0: -far, X1: far, Y1: far}, far, api.Rect{X0: -far, Y0: -far, X1: far, Y1: far}},
		{api.Rect{X0: -far, Y0: -far, X1: far, Y1: far}, -far + 1, api.Rect{X0: -1, Y0: -1, X1: 1, Y1: 1}},
		{api.Rect{X0: -far, Y0: -far, X1: far, Y1: far}, -far, api.Rect{}},
		{api.Rect{X0: far - 1, Y0: 0, X1: far, Y1: 1}, -far, api.Rect{}},
		{api.Rect{X0: far - 1, Y0: 0, X1: far, Y1: 1}, far, api.Rect{X0: -1, Y0: -far, X1: far, Y1: far}},
		{api.Rect{X0: far, Y0: 0, X1: far, Y1: 1}, 5, api.Rect{}},
		{api.Rect{X0: 3, Y0: 0, X1: 2, Y1: 9}, 5, api.Rect{}},
	} {
		if g := rect.Grow(c.r, c.by); g != c.want {
			t.Errorf("Grow(%v, %d): %v, not %v", c.r, c.by, g, c.want)
		}
	}
}

func TestP6_2_Ends(t *testing.T) {
	all := api.Rect{X0: -far, Y0: -far, X1: far, Y1: far}
	for _, x := range ends {
		for _, y := range ends {
			in := -far <= x && x < far && -far <= y && y < far
			if rect.Has(all, x, y) != in {
				t.Errorf("Has(%v, %d, %d): %v", all, x, y, !in)
			}
		}
	}
	for _, r := range large() {
		want := new(big.Int)
		if r.X0 < r.X1 && r.Y0 < r.Y1 {
			want.Mul(big.NewInt(int64(r.X1-r.X0)), big.NewInt(int64(r.Y1-r.Y0)))
		}
		if !want.IsInt64() {
			want.SetInt64(math.MaxInt64)
		}
		if n := rect.Area(r); int64(n) != want.Int64() {
			t.Errorf("Area(%v): %d, not %v", r, n, want)
		}
		if !rect.In(r, all) || rect.Both(r, all) != rect.Norm(r) || rect.Around(r, all) != all {
			t.Errorf("%v and all", r)
		}
	}
	for _, c := range []struct {
		r    api.Rect
		want int
	}{
		{all, math.MaxInt64},
		{api.Rect{X0: -far, Y0: 0, X1: far, Y1: far}, math.MaxInt64},
		{api.Rect{X0: -far, Y0: 1, X1: far, Y1: far}, 1<<63 - 1<<32},
		{api.Rect{X0: -far + 1, Y0: 0, X1: far, Y1: far}, 1<<63 - 1<<31},
		{api.Rect{X0: -far, Y0: -far, X1: far, Y1: 0}, math.MaxInt64},
		{api.Rect{X0: 0, Y0: 0, X1: far, Y1: far}, 1 << 62},
	} {
		if n := rect.Area(c.r); n != c.want {
			t.Errorf("Area(%v): %d, not %d", c.r, n, c.want)
		}
	}
}

func TestP6_3_Places(t *testing.T) {
	var l [][2]int
	r := api.Rect{X0: -1, Y0: 3, X1: 2, Y1: 5}
	for x, y := range rect.Places(r) {
		l = append(l, [2]int{x, y})
	}
	if fmt.Sprint(l) != "[[-1 3] [0 3] [1 3] [-1 4] [0 4] [1 4]]" {
		t.Errorf("Places(%v): %v", r, l)
	}
	for _, r := range small() {
		var set uint64
		n, last := 0, -1
		for x, y := range rect.Places(r) {
			at := (y+4)*side + x + 4
			if at <= last {
				t.Fatalf("Places(%v): %d, %d comes too late", r, x, y)
			}
			last = at
			set |= bit(x, y)
			n++
		}
		if set != places(r) || n != rect.Area(r) {
			t.Errorf("Places(%v): %x, %d", r, set, n)
		}
	}
}

func TestP6_3_LeftAndAgain(t *testing.T) {
	all := rect.Places(api.Rect{X0: -far, Y0: far - 1, X1: far, Y1: far})
	for n := 1; n <= 5; n++ {
		i := 0
		for x, y := range all {
			if x != -far+i || y != far-1 {
				t.Fatalf("place %d: %d, %d", i, x, y)
			}
			if i++; i == n {
				break
			}
		}
		if i != n {
			t.Fatalf("left at %d, not %d", i, n)
		}
	}
	some := rect.Places(api.Rect{X1: 2, Y1: 3})
	for k := range 3 {
		n := 0
		for range some {
			n++
		}
		if n != 6 {
			t.Fatalf("gone through for the %d. time: %d", k+1, n)
		}
	}
	for _, r := range []api.Rect{{}, {X0: 1, X1: 1, Y1: 1}, {X1: far + 1, Y1: 1}} {
		if rect.Places(r) == nil {
			t.Errorf("Places(%v) is nil", r)
		}
	}
	// Left in the last place of a row, too, nothing more comes.
	calls := 0
	some(func(x, y int) bool {
		calls++
		return x != 1
	})
	if calls != 2 {
		t.Errorf("left after %d", calls)
	}
}

func TestP6_4_Laws(t *testing.T) {
	all := append(append(large(), wrong()...), api.Rect{X0: -1, Y0: -2, X1: 5, Y1: 1}, api.Rect{X0: 4, Y0: 0, X1: 6, Y1: 9})
	for _, a := range all {
		for _, b := range all {
			both, around := rect.Both(a, b), rect.Around(a, b)
			if both != rect.Both(b, a) || around != rect.Around(b, a) {
				t.Fatalf("%v and %v: not the same either way", a, b)
			}
			if !rect.In(a, around) || !rect.In(b, around) || !rect.In(both, a) || !rect.In(both, b) {
				t.Fatalf("%v and %v: Both %v, Around %v", a, b, both, around)
			}
			for _, x := range ends[1:11] {
				for _, y := range ends[1:11] {
					if rect.Has(both, x, y) != (rect.Has(a, x, y) && rect.Has(b, x, y)) {
						t.Fatalf("Has of Both(%v, %v) at %d, %d", a, b, x, y)
					}
				}
			}
		}
	}
	for _, a := range small() {
		for _, b := range small() {
			around := rect.Around(a, b)
			for _, c := range []api.Rect{a, b, rect.Both(a, b), rect.Grow(a, -1), rect.Grow(b, -1)} {
				if (rect.In(c, a) || rect.In(c, b)) && !rect.In(c, around) {
					t.Fatalf("%v isn't In Around(%v, %v)", c, a, b)
				}
			}
		}
	}
}

// every is what all calls tell of two rectangles and two numbers.
func every(a, b api.Rect, x, y int) string {
	first := fmt.Sprint(rect.Right(a), rect.Norm(a), rect.Empty(a), rect.Has(a, x, y), rect.In(a, b), rect.Area(a))
	n := 0
	for i, k := range rect.Places(a) {
		first += fmt.Sprint(i, k)
		if n++; n == 3 {
			break
		}
	}
	return first + fmt.Sprint(rect.Both(a, b), rect.Around(a, b), rect.Grow(a, x))
}

// P1 and P2: all end at all edges, and tell the same again, whatever was called between.
func TestP1_P2_TheSameAgain(t *testing.T) {
	all := append(wrong(), small()...)
	for i, x0 := range ends {
		for k, y1 := range ends {
			all = append(all, api.Rect{X0: x0, Y0: ends[(i+k)%len(ends)], X1: ends[(i+5*k)%len(ends)], Y1: y1})
		}
	}
	var first []string
	for i, a := range all {
		first = append(first, every(a, all[len(all)-1-i], ends[i%12], ends[i/12%12]))
	}
	for i := len(all) - 1; i >= 0; i-- {
		if again := every(all[i], all[len(all)-1-i], ends[i%12], ends[i/12%12]); again != first[i] {
			t.Fatalf("%v: %s, then %s", all[i], first[i], again)
		}
	}
}
