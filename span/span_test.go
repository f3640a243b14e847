package span_test

import (
	"fmt"
	"math"
	"slices"
	"testing"

	"anamorph/affine"
	"anamorph/api"
	"anamorph/span"
)

const (
	one  = 65536
	coef = 1 << 24
	move = 1 << 31
	end  = 1 << 20
)

// job is a map, and two images' sizes.
type job struct {
	c              []int64
	w, h, to, rows int
}

// maps are right ones: moved, turned, mirrored, larger and smaller, slanted, of determinants of either sign, and such as lie at the ends.
func maps() [][]int64 {
	l := [][]int64{
		{one, 0, 0, 0, one, 0}, {one, 0, 2 * one, 0, one, 0}, {one, 0, -2 * one, 0, one, -3 * one}, {one, 0, one / 2, 0, one, one / 2}, {one, 0, -one / 2, 0, one, -one / 2}, {one, 0, one/2 - 1, 0, one, one/2 + 1}, {one, 0, one/2 + 1, 0, one, one/2 - 1},
		{-one, 0, 8 * one, 0, one, 0}, {one, 0, 0, 0, -one, 5 * one}, {-one, 0, 6*one - one/2, 0, -one, 5*one + one/2}, {0, -one, 7 * one, one, 0, 0}, {0, one, 0, -one, 0, 9 * one}, {0, one, 0, one, 0, 0},
		{2 * one, 0, 0, 0, 2 * one, 0}, {3 * one, 0, -one, 0, 3 * one, one}, {one / 2, 0, one, 0, one / 3, 0}, {one / 9, 0, 3 * one, 0, one / 9, 3 * one}, {coef, 0, 0, 0, coef, 0}, {1, 0, 0, 0, 1, 0}, {1, 0, 5 * one, 0, 1, one},
		{one, one / 2, 0, 0, one, 0}, {one, 0, 0, one / 3, one, 0}, {one * 3 / 4, -one / 2, 3 * one, one / 2, one * 3 / 4, -one}, {-one, one / 7, 9 * one, one / 5, one, one}, {0, one, 0, -one, one / 9, 5 * one}, {one, one, 0, one, -one, 9 * one},
		{one, 0, move, 0, one, 0}, {one, 0, 0, 0, one, -move}, {coef, coef, move, -coef, coef, -move}, {coef, coef - 1, move, coef - 1, coef - 2, -move}, {3, 5, 7, 11, 13, 17}, {one, 0, 30000 * one, 0, one, 30000 * one}, {one, 0, -30000 * one, 0, one, -30000 * one},
	}
	x := uint64(23)
	for n := range 60 { // and some without any pattern, about as large as what they make
		c := make([]int64, 6)
		for i := range c {
			x = x*6364136223846793005 + 1442695040888963407
			c[i] = int64(x>>33)%(4*one) - 2*one
			if i%3 == 2 {
				c[i] *= int64(n%8) + 1
			}
		}
		if c[0]*c[4] != c[1]*c[3] {
			l = append(l, c)
		}
	}
	return l
}

// jobs are right ones.
func jobs() []job {
	var l []job
	for _, c := range maps() {
		for _, s := range [][4]int{{1, 1, 1, 1}, {3, 3, 9, 9}, {7, 5, 12, 10}, {5, 9, 1, 14}, {1, 6, 15, 3}, {20, 1, 8, 8}, {3, 4, 2, 9}, {4, 2, 3, 7}} {
			l = append(l, job{c, s[0], s[1], s[2], s[3]})
		}
	}
	return l
}

// floor is a number divided by One, rounded down.
func floor(x int64) int64 {
	q := x / one
	if x%one < 0 {
		q--
	}
	return q
}

// in tells what In must tell, of a right map and right sizes.
func in(c []int64, w, h, x, y int) bool {
	m, _ := affine.New(c)
	u, v, e := m.At(int64(x), int64(y), 1)
	u, v = floor(u+32768), floor(v+32768)
	return e == api.OK && 0 <= u && u < int64(w) && 0 <= v && v < int64(h)
}

// want is the span of a row, pixel by pixel; false: its pixels aren't in one piece.
func want(j job, y int) (span.Span, bool) {
	s := span.Span{Y: y}
	for x := range j.to {
		if !in(j.c, j.w, j.h, x, y) {
			continue
		}
		if s.X1 == 0 {
			s.X0, s.X1 = x, x
		}
		if s.X1 != x {
			return s, false
		}
		s.X1++
	}
	return s, true
}

func TestP26_1_In(t *testing.T) {
	seen := map[bool]int{}
	for _, j := range jobs() {
		for y := -3; y < j.rows+3; y++ {
			for x := -3; x < j.to+3; x++ {
				is := in(j.c, j.w, j.h, x, y)
				seen[is]++
				if span.In(j.c, j.w, j.h, x, y) != is {
					t.Fatalf("In(%v, %d, %d, %d, %d): %v", j.c, j.w, j.h, x, y, !is)
				}
			}
		}
	}
	if seen[true] < 1000 || seen[false] < 1000 {
		t.Error("the pixels aren't of both kinds:", seen)
	}
}

// Half a pixel before the first one is in, half a pixel behind the last one isn't.
func TestP26_1_Edges(t *testing.T) {
	for _, c := range []struct {
		c    []int64
		x, y int
		want bool
	}{
		{affine.Move(one/2, 0), 0, 0, true}, {affine.Move(one/2+1, 0), 0, 0, false}, {affine.Move(-one/2, 0), 2, 0, false}, {affine.Move(1-one/2, 0), 2, 0, true},
		{affine.Move(0, one/2), 0, 0, true}, {affine.Move(0, one/2+1), 0, 0, false}, {affine.Move(0, -one/2), 0, 1, false}, {affine.Move(0, 1-one/2), 0, 1, true},
		{affine.Unit(), 2, 1, true}, {affine.Unit(), 3, 1, false}, {affine.Unit(), 2, 2, false}, {affine.Unit(), -1, 0, false}, {affine.Unit(), 0, -1, false}, {affine.Move(-5*one, -7*one), -5, -7, true},
		{affine.Move(move, move), 32768, 32768, true}, {[]int64{coef, 0, 0, 0, coef, 0}, end, 0, false}, {[]int64{coef, 0, 0, 0, coef, 0}, 600, 300, true}, {[]int64{1, 0, move, 0, 1, 0}, 32767, 0, false},
	} {
		if span.In(c.c, 3, 2, c.x, c.y) != c.want {
			t.Errorf("In(%v, 3, 2, %d, %d): %v", c.c, c.x, c.y, !c.want)
		}
	}
}

func TestP26_1_WrongOnes(t *testing.T) {
	unit := affine.Unit()
	for _, n := range []int{0, -1, 32769, 1 << 32, math.MinInt, math.MinInt + 5, -1 << 47, 5 - 1<<48, math.MaxInt} {
		if span.In(unit, n, 1, 0, 0) || span.In(unit, 1, n, 0, 0) || span.In(unit, n, n, 0, 0) || span.In(unit, 32768, n, 0, 0) {
			t.Errorf("In of an image of %d", n)
		}
	}
	if !span.In(unit, 32768, 32768, 0, 0) || !span.In(unit, 32768, 32768, 32767, 32767) || !span.In(unit, 1, 1, 0, 0) {
		t.Error("In of the largest")
	}
	for _, c := range [][]int64{nil, {}, unit[:5], append(affine.Unit(), 0), make([]int64, 6), {one, one, 0, one, one, 0}, {coef + 1, 0, 0, 0, one, 0}, {one, 0, math.MinInt64, 0, one, 0}} {
		if span.In(c, 9, 9, 0, 0) {
			t.Errorf("In of %v", c)
		}
	}
	for _, x := range []int{end + 1, -end - 1, 1 << 32, math.MinInt, math.MaxInt} { // At has a code: 0, 0 is no place there
		if span.In(unit, 9, 9, x, 0) || span.In(unit, 9, 9, 0, x) || span.In([]int64{coef, 0, 0, 0, coef, 0}, 32768, 32768, x, 0) || span.In([]int64{coef, 0, 0, 0, coef, 0}, 32768, 32768, 0, x) {
			t.Errorf("In at %d", x)
		}
	}
	if c := []int64{coef, 0, 0, 0, coef, 0}; !span.In(c, 32768, 32768, end, end) {
		t.Error("In at the farthest place")
	}
}

func TestP26_2_Check(t *testing.T) {
	unit := affine.Unit()
	for _, c := range [][]int64{unit, nil, unit[:5], make([]int64, 6), {coef + 1, 0, 0, 0, one, 0}, {one, one, 0, one, one, 0}} {
		code := affine.Check(c)
		for _, s := range [][4]int{{1, 1, 1, 1}, {32768, 32768, 32768, 32768}, {1, 32768, 3, 4}} {
			refused(t, job{c, s[0], s[1], s[2], s[3]}, code)
		}
		for i := range 4 {
			for _, n := range []int{0, -1, math.MinInt} {
				s := [4]int{5, 6, 7, 8}
				s[i] = n
				refused(t, job{c, s[0], s[1], s[2], s[3]}, api.ErrSize)
				for k := range 4 { // one that is too great comes ahead
					if k != i {
						both := s
						both[k] = 32769
						refused(t, job{c, both[0], both[1], both[2], both[3]}, api.ErrLimit)
					}
				}
			}
			for _, n := range []int{32769, 1 << 32, math.MaxInt} {
				s := [4]int{5, 6, 7, 8}
				s[i] = n
				refused(t, job{c, s[0], s[1], s[2], s[3]}, api.ErrLimit)
			}
		}
	}
}

// refused checks the code of all that tell it.
func refused(t *testing.T, j job, want api.Errno) {
	t.Helper()
	if e := span.Check(j.c, j.w, j.h, j.to, j.rows); e != want {
		t.Errorf("Check(%v): %v, not %v", j, e, want)
	}
	if want == api.OK {
		return
	}
	if l, e := span.All(j.c, j.w, j.h, j.to, j.rows); len(l) != 0 || e != want {
		t.Errorf("All(%v): %v %v, not %v", j, l, e, want)
	}
	row := span.Check(j.c, j.w, j.h, j.to, 1)
	for _, y := range []int{0, 5, -1, 32768, math.MaxInt} {
		if s, e := span.Row(j.c, j.w, j.h, y, j.to); row != api.OK && (s != span.Span{} || e != row) {
			t.Errorf("Row(%v, %d): %v %v, not %v", j, y, s, e, row)
		}
	}
}

func TestP26_3_ByHand(t *testing.T) {
	for _, c := range []struct {
		c        []int64
		w, h, to int
		y        int
		want     span.Span
	}{
		{[]int64{one, 0, 2 * one, 0, one, 0}, 3, 3, 9, 0, span.Span{Y: 0, X0: 2, X1: 5}}, {[]int64{one, 0, 2 * one, 0, one, 0}, 3, 3, 9, 2, span.Span{Y: 2, X0: 2, X1: 5}},
		{[]int64{one, 0, 2 * one, 0, one, 0}, 3, 3, 9, 3, span.Span{Y: 3}}, {[]int64{one, 0, 2 * one, 0, one, 0}, 3, 3, 4, 1, span.Span{Y: 1, X0: 2, X1: 4}}, {[]int64{one, 0, 2 * one, 0, one, 0}, 3, 3, 2, 1, span.Span{Y: 1}},
		{[]int64{one, 0, -2 * one, 0, one, 0}, 3, 3, 9, 1, span.Span{Y: 1, X0: 0, X1: 1}}, {[]int64{one, 0, -3 * one, 0, one, 0}, 3, 3, 9, 1, span.Span{Y: 1}},
		{[]int64{-one, 0, 5 * one, 0, one, 0}, 3, 3, 9, 0, span.Span{Y: 0, X0: 3, X1: 6}}, {[]int64{2 * one, 0, 0, 0, 2 * one, 0}, 3, 3, 9, 5, span.Span{Y: 5}}, {[]int64{2 * one, 0, 0, 0, 2 * one, 0}, 3, 3, 9, 4, span.Span{Y: 4, X0: 0, X1: 5}},
		{[]int64{0, -one, 4 * one, one, 0, 0}, 3, 2, 9, 1, span.Span{Y: 1, X0: 3, X1: 5}}, {affine.Unit(), 32768, 32768, 32768, 32767, span.Span{Y: 32767, X0: 0, X1: 32768}}, {affine.Move(-move, 0), 32768, 1, 32768, 0, span.Span{Y: 0}},
		{affine.Move(one/2-move, 0), 32768, 1, 32768, 0, span.Span{Y: 0}}, {affine.Move(one/2+1-move, 0), 32768, 1, 32768, 0, span.Span{Y: 0, X0: 0, X1: 1}}, {affine.Move(move-one, 0), 1, 1, 32768, 0, span.Span{Y: 0, X0: 32767, X1: 32768}},
	} {
		if s, e := span.Row(c.c, c.w, c.h, c.y, c.to); s != c.want || e != api.OK {
			t.Errorf("Row %d of %v, %d %d to %d: %v %v, not %v", c.y, c.c, c.w, c.h, c.to, s, e, c.want)
		}
	}
}

func TestP26_3_Row(t *testing.T) {
	nothing, a, all := 0, 0, 0
	for _, j := range jobs() {
		for y := range j.rows {
			expected, is := want(j, y)
			if s, e := span.Row(j.c, j.w, j.h, y, j.to); s != expected || e != api.OK || !is {
				t.Fatalf("Row %d of %v: %v %v, not %v %v", y, j, s, e, expected, is)
			}
			switch expected.X1 - expected.X0 {
			case 0:
				nothing++
			case j.to:
				all++
			default:
				a++
			}
		}
	}
	if nothing < 100 || a < 100 || all < 100 {
		t.Error("the rows aren't of all kinds:", nothing, a, all)
	}
}

func TestP26_3_LongRows(t *testing.T) {
	for _, c := range maps() {
		for _, y := range []int{0, 9, 32767} {
			j := job{c, 32768, 32000, 32768, 1}
			s, e := span.Row(c, j.w, j.h, y, j.to)
			if e != api.OK || s.Y != y || s.X0 > s.X1 || s.X0 == s.X1 && s.X0 != 0 {
				t.Fatalf("Row %d of %v: %v %v", y, c, s, e)
			}
			for _, x := range []int{0, 1, s.X0 - 1, s.X0, s.X0 + 1, (s.X0 + s.X1) / 2, s.X1 - 1, s.X1, s.X1 + 1, 16384, 32767} {
				if 0 <= x && x < j.to && in(c, j.w, j.h, x, y) != (s.X0 <= x && x < s.X1) {
					t.Fatalf("Row %d of %v: %v, at %d", y, c, s, x)
				}
			}
		}
	}
}

// Rows along which columns (or rows) go on by less than a part from pixel to pixel: they stand still at first, and cross an end later.
func TestP26_3_SlowRows(t *testing.T) {
	crossed := map[bool]int{}
	for _, e := range []int64{-90, -64, -3, 3, 64, 90} {
		for k := int64(-25); k <= 25; k++ { // by 2 k parts from the end at first
			f := 512*k - 1835008
			crossed[slow(t, []int64{coef, coef, 0, -coef, e, f}, 2, 200)]++
			crossed[slow(t, []int64{coef, coef, 0, e, -coef, f}, 200, 2)]++
		}
	}
	if crossed[true] < 50 {
		t.Error("only so many cross an end:", crossed)
	}
}

// slow checks a row, and tells whether it crosses an end far behind its first pixels.
func slow(t *testing.T, c []int64, w, h int) bool {
	t.Helper()
	s, e := span.Row(c, w, h, 100, 32768)
	if e != api.OK {
		t.Fatal(c, e)
	}
	for _, x := range []int{0, 1, 2, s.X0 - 1, s.X0, (s.X0 + s.X1) / 2, s.X1 - 1, s.X1, 1000, 10000, 20000, 32766, 32767} {
		if 0 <= x && x < 32768 && in(c, w, h, x, 100) != (s.X0 <= x && x < s.X1) {
			t.Fatalf("Row of %v: %v, at %d", c, s, x)
		}
	}
	return s.X0 > 1 || s.X1 > 1 && s.X1 < 32768
}

func TestP26_3_WrongRows(t *testing.T) {
	for _, y := range []int{-1, 32768, 1 << 32, math.MinInt, math.MaxInt} {
		if s, e := span.Row(affine.Unit(), 9, 9, y, 9); s != (span.Span{}) || e != api.ErrRange {
			t.Errorf("Row %d: %v %v", y, s, e)
		}
		if s, e := span.Row(nil, 9, 9, y, 9); s != (span.Span{}) || e != api.ErrSize {
			t.Errorf("Row %d of no map: %v %v", y, s, e)
		}
		if s, e := span.Row(make([]int64, 6), 9, 9, y, 9); s != (span.Span{}) || e != api.ErrSingular {
			t.Errorf("Row %d of a wrong map: %v %v", y, s, e)
		}
	}
	for _, n := range []int{0, 32769} {
		code := map[int]api.Errno{0: api.ErrSize, 32769: api.ErrLimit}[n]
		for _, c := range [][3]int{{n, 1, 1}, {1, n, 1}, {1, 1, n}} {
			if s, e := span.Row(affine.Unit(), c[0], c[1], 0, c[2]); s != (span.Span{}) || e != code {
				t.Errorf("Row of %v: %v %v", c, s, e)
			}
		}
	}
}

func TestP26_3_All(t *testing.T) {
	for _, j := range jobs() {
		var expected []span.Span
		n := 0
		for y := range j.rows {
			if s, _ := want(j, y); s.X1 > 0 {
				expected = append(expected, s)
				n += s.X1 - s.X0
			}
		}
		l, e := span.All(j.c, j.w, j.h, j.to, j.rows)
		if !slices.Equal(l, expected) || e != api.OK {
			t.Fatalf("All(%v): %v %v, not %v", j, l, e, expected)
		}
		if span.Count(l) != n {
			t.Fatalf("Count(%v): %d, not %d", l, span.Count(l), n)
		}
	}
	l, e := span.All(affine.Move(5*one, 7*one), 32768, 32768, 32768, 32768)
	if len(l) != 32761 || e != api.OK || l[0] != (span.Span{Y: 7, X0: 5, X1: 32768}) || l[32760] != (span.Span{Y: 32767, X0: 5, X1: 32768}) || span.Count(l) != 32761*32763 {
		t.Error(len(l), e)
	}
}

func TestP26_3_Count(t *testing.T) {
	for _, c := range []struct {
		l    []span.Span
		want int
	}{
		{nil, 0}, {[]span.Span{{}}, 0}, {[]span.Span{{5, 2, 9}}, 7}, {[]span.Span{{5, 9, 2}}, 0}, {[]span.Span{{1, 0, 3}, {1, 5, 4}, {0, 3, 3}, {-7, -9, -7}}, 5}, {[]span.Span{{0, 0, 3}, {0, 0, 3}}, 6},
		{[]span.Span{{0, math.MaxInt, math.MinInt}}, 0}, {[]span.Span{{0, 1, math.MinInt}, {0, 0, 1}}, 1}, {[]span.Span{{0, 0, math.MaxInt}}, math.MaxInt}, {[]span.Span{{0, math.MinInt, -1}}, math.MaxInt}, {[]span.Span{{math.MaxInt, -5, 1 << 40}}, 1<<40 + 5},
	} {
		kept := slices.Clone(c.l)
		if n := span.Count(c.l); n != c.want || !slices.Equal(c.l, kept) {
			t.Errorf("Count(%v): %d, not %d", c.l, n, c.want)
		}
	}
}

// every is what all calls tell.
func every(j job, x, y int) string {
	s, e1 := span.Row(j.c, j.w, j.h, y, j.to)
	l, e2 := span.All(j.c, j.w, j.h, j.to, min(j.rows, 99))
	return fmt.Sprint(s, e1, l, e2, span.Count(l), span.In(j.c, j.w, j.h, x, y), span.Check(j.c, j.w, j.h, j.to, j.rows))
}

// P1 and P2: all end at all edges, wrong ones too, and tell the same again, whatever was called between; what is handed in stays.
func TestP1_P2_TheSameAgain(t *testing.T) {
	l, numbers := jobs(), []int{0, 1, 2, 5, 9, -1, 32767, 32768, end, end + 1, -end, math.MinInt, math.MaxInt}
	l = append(l, job{nil, 1, 1, 1, 1}, job{[]int64{1}, 0, 0, 0, 0}, job{make([]int64, 6), 5, 5, 5, 5}, job{affine.Unit(), math.MaxInt, math.MinInt, 1, 1}, job{affine.Unit(), 1, 1, math.MaxInt, 1}, job{affine.Unit(), 1, 1, 1, math.MinInt})
	kept := fmt.Sprint(l)
	told := func(i int) string { return every(l[i%len(l)], numbers[i%13], numbers[i/13%13]) }
	var first []string
	for i := range 5000 {
		first = append(first, told(i))
	}
	for i := len(first) - 1; i >= 0; i-- {
		if again := told(i); again != first[i] {
			t.Fatalf("%d: %s, then %s", i, first[i], again)
		}
	}
	if fmt.Sprint(l) != kept {
		t.Error("what was handed in is changed")
	}
}
