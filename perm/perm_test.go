package perm_test

import (
	"fmt"
	"math"
	"slices"
	"testing"

	"anamorph/api"
	"anamorph/perm"
)

// kinds are the six.
var kinds = []int{perm.Straight, perm.Back, perm.Columns, perm.Snake, perm.Spiral, perm.Mixed}

// seeds are what Mixed may begin with.
var seeds = []uint64{0, 1, 2, 12345, 1 << 63, 0xfedcba9876543210, math.MaxUint64}

// no are lists that are no order of as many things as they have.
var no = [][]int{{1}, {-1}, {0, 0}, {1, 1}, {1, 2}, {0, 2}, {0, -1}, {0, 1, 3}, {2, 0, 2}, {math.MinInt}, {math.MaxInt}, {0, math.MaxInt}, {0, 1, 2, 2}}

// orders are all orders of n things.
func orders(n int) [][]int {
	if n == 0 {
		return [][]int{{}}
	}
	var l [][]int
	for _, o := range orders(n - 1) {
		for at := range n {
			l = append(l, slices.Insert(slices.Clone(o), at, n-1))
		}
	}
	return l
}

// wound is a spiral, gone step by step: on, till what lies ahead is outside or was seen; then to the right.
func wound(cols, rows int) []int {
	seen := make([]bool, cols*rows)
	var l []int
	x, y, dx, dy := 0, 0, 1, 0
	for {
		l = append(l, y*cols+x)
		seen[y*cols+x] = true
		for turns := 0; ; turns++ {
			if turns == 4 {
				return l
			}
			a, b := x+dx, y+dy
			if 0 <= a && a < cols && 0 <= b && b < rows && !seen[b*cols+a] {
				x, y = a, b
				break
			}
			dx, dy = -dy, dx
		}
	}
}

// want is the order of a kind, by what the document says of each.
func want(kind, cols, rows int, seed uint64) []int {
	n := cols * rows
	l := make([]int, n)
	for i := range l {
		l[i] = i
	}
	switch kind {
	case perm.Back:
		slices.Reverse(l)
	case perm.Columns:
		for i := range l {
			l[i] = i%rows*cols + i/rows
		}
	case perm.Snake:
		for i := range l {
			if row := i / cols; row%2 == 1 {
				l[i] = row*cols + cols - 1 - i%cols
			}
		}
	case perm.Spiral:
		return wound(cols, rows)
	case perm.Mixed:
		x := max(seed, 1)
		for i := n - 1; i >= 1; i-- {
			x = x ^ x<<13
			x = x ^ x>>7
			x = x ^ x<<17
			k := int(x % (uint64(i) + 1))
			l[i], l[k] = l[k], l[i]
		}
	}
	return l
}

func TestP10_1_Is(t *testing.T) {
	for n := range 5 {
		for _, o := range orders(n) {
			for m := -1; m <= n+1; m++ {
				if perm.Is(o, m) != (m == n) {
					t.Errorf("Is(%v, %d): %v", o, m, m != n)
				}
			}
		}
	}
	for _, l := range no {
		for n := -1; n <= 5; n++ {
			if perm.Is(l, n) {
				t.Errorf("Is(%v, %d)", l, n)
			}
		}
	}
	if !perm.Is(nil, 0) || perm.Is(nil, -1) || perm.Is(nil, 1) || perm.Is(nil, math.MaxInt) || perm.Is([]int{0}, math.MinInt) {
		t.Error("Is of none")
	}
}

func TestP10_2_ByHand(t *testing.T) {
	for _, c := range []struct {
		kind, cols, rows int
		want             string
	}{
		{perm.Straight, 3, 2, "[0 1 2 3 4 5]"}, {perm.Back, 3, 2, "[5 4 3 2 1 0]"}, {perm.Columns, 3, 2, "[0 3 1 4 2 5]"},
		{perm.Snake, 3, 2, "[0 1 2 5 4 3]"}, {perm.Snake, 3, 3, "[0 1 2 5 4 3 6 7 8]"}, {perm.Snake, 2, 4, "[0 1 3 2 4 5 7 6]"},
		{perm.Spiral, 3, 2, "[0 1 2 5 4 3]"}, {perm.Spiral, 3, 3, "[0 1 2 5 8 7 6 3 4]"}, {perm.Spiral, 4, 3, "[0 1 2 3 7 11 10 9 8 4 5 6]"},
		{perm.Spiral, 3, 4, "[0 1 2 5 8 11 10 9 6 3 4 7]"}, {perm.Spiral, 1, 4, "[0 1 2 3]"}, {perm.Spiral, 4, 1, "[0 1 2 3]"},
		{perm.Spiral, 2, 2, "[0 1 3 2]"}, {perm.Spiral, 1, 1, "[0]"},
		{perm.Mixed, 1, 1, "[0]"},
	} {
		if l, e := perm.Make(c.kind, c.cols, c.rows, 0); fmt.Sprint(l) != c.want || e != api.OK {
			t.Errorf("kind %d of %d x %d: %v %v, not %s", c.kind, c.cols, c.rows, l, e, c.want)
		}
	}
}

// Orders that were reckoned apart from this program.
func TestP10_2_MixedByNumbers(t *testing.T) {
	for _, c := range []struct {
		cols, rows int
		seed       uint64
		want       string
	}{
		{2, 1, 1, "[0 1]"}, {3, 1, 1, "[2 1 0]"}, {1, 5, 1, "[2 3 0 4 1]"}, {4, 2, 1, "[4 2 5 7 0 3 6 1]"}, {2, 4, 0, "[4 2 5 7 0 3 6 1]"},
		{8, 1, 12345, "[7 6 4 2 0 5 3 1]"}, {2, 4, math.MaxUint64, "[4 2 1 6 3 7 5 0]"},
	} {
		if l, e := perm.Make(perm.Mixed, c.cols, c.rows, c.seed); fmt.Sprint(l) != c.want || e != api.OK {
			t.Errorf("mixed of %d x %d from %d on: %v %v, not %s", c.cols, c.rows, c.seed, l, e, c.want)
		}
	}
}

func TestP10_2_Make(t *testing.T) {
	for _, kind := range kinds {
		for cols := 1; cols <= 7; cols++ {
			for rows := 1; rows <= 7; rows++ {
				for _, seed := range seeds {
					l, e := perm.Make(kind, cols, rows, seed)
					if e != api.OK || !slices.Equal(l, want(kind, cols, rows, seed)) {
						t.Fatalf("kind %d of %d x %d, %d: %v %v", kind, cols, rows, seed, l, e)
					}
					if !perm.Is(l, cols*rows) {
						t.Fatalf("kind %d of %d x %d, %d is no order", kind, cols, rows, seed)
					}
				}
			}
		}
		for _, s := range [][2]int{{32768, 1}, {1, 32768}, {32768, 32}, {32, 32768}, {1024, 1024}, {1023, 1025}} {
			l, e := perm.Make(kind, s[0], s[1], 77)
			if e != api.OK || !slices.Equal(l, want(kind, s[0], s[1], 77)) {
				t.Fatalf("kind %d of %v: %v", kind, s, e)
			}
		}
	}
	zero, _ := perm.Make(perm.Mixed, 9, 9, 0)
	one, _ := perm.Make(perm.Mixed, 9, 9, 1)
	two, _ := perm.Make(perm.Mixed, 9, 9, 2)
	if !slices.Equal(zero, one) || slices.Equal(one, two) {
		t.Error("0 counts as 1, and 2 doesn't")
	}
}

func TestP10_2_WrongOnes(t *testing.T) {
	least, most := math.MinInt, math.MaxInt
	for _, c := range []struct {
		kind, cols, rows int
		want             api.Errno
	}{
		{-1, 1, 1, api.ErrArg}, {6, 1, 1, api.ErrArg}, {6, 0, 40000, api.ErrArg}, {least, 2, 2, api.ErrArg}, {most, most, most, api.ErrArg},
		{0, 0, 1, api.ErrSize}, {1, 1, 0, api.ErrSize}, {2, 0, 40000, api.ErrSize}, {3, 40000, -1, api.ErrSize}, {4, least, least, api.ErrSize}, {5, -1, -1, api.ErrSize}, {5, most, least, api.ErrSize},
		{0, 32769, 1, api.ErrLimit}, {1, 1, 32769, api.ErrLimit}, {2, 32768, 33, api.ErrLimit}, {3, 1024, 1025, api.ErrLimit}, {4, most, most, api.ErrLimit}, {5, 1 << 32, 1 << 32, api.ErrLimit}, {5, 32768, 32768, api.ErrLimit}, {0, 1, most, api.ErrLimit},
	} {
		if l, e := perm.Make(c.kind, c.cols, c.rows, 5); e != c.want || len(l) != 0 {
			t.Errorf("Make(%d, %d, %d): %v, not %v", c.kind, c.cols, c.rows, e, c.want)
		}
	}
}

func TestP10_3_Inverse(t *testing.T) {
	for n := range 6 {
		for _, o := range orders(n) {
			kept := slices.Clone(o)
			l, is := perm.Inverse(o)
			if !is || len(l) != n || !slices.Equal(o, kept) {
				t.Fatalf("Inverse(%v): %v %v", o, l, is)
			}
			for i, x := range o {
				if l[x] != i {
					t.Fatalf("Inverse(%v): %v", o, l)
				}
			}
		}
	}
	for _, l := range no {
		if o, is := perm.Inverse(l); is || len(o) != 0 {
			t.Errorf("Inverse(%v): %v %v", l, o, is)
		}
	}
	if l, is := perm.Inverse(nil); !is || len(l) != 0 {
		t.Errorf("Inverse of none: %v %v", l, is)
	}
}

func TestP10_3_Then(t *testing.T) {
	for n := range 5 {
		for m := range 5 {
			for _, a := range orders(n) {
				for _, b := range orders(m) {
					behind(t, a, b)
				}
			}
		}
	}
	for _, l := range no {
		for _, o := range [][]int{{}, {0}, {0, 1}, {1, 0}, {2, 0, 1}, {3, 2, 1, 0}} {
			if both, is := perm.Then(l, o); is || len(both) != 0 {
				t.Errorf("Then(%v, %v): %v %v", l, o, both, is)
			}
			if both, is := perm.Then(o, l); is || len(both) != 0 {
				t.Errorf("Then(%v, %v): %v %v", o, l, both, is)
			}
		}
		if both, is := perm.Then(l, l); is || len(both) != 0 {
			t.Errorf("Then(%v) twice: %v %v", l, both, is)
		}
	}
	if l, is := perm.Then(nil, nil); !is || len(l) != 0 {
		t.Errorf("Then of none: %v %v", l, is)
	}
}

// behind checks Then of two orders.
func behind(t *testing.T, a, b []int) {
	t.Helper()
	before, after := slices.Clone(a), slices.Clone(b)
	l, is := perm.Then(a, b)
	if is != (len(a) == len(b)) || is && len(l) != len(a) || !is && len(l) != 0 || !slices.Equal(a, before) || !slices.Equal(b, after) {
		t.Fatalf("Then(%v, %v): %v %v", a, b, l, is)
	}
	for i := range l {
		if l[i] != a[b[i]] {
			t.Fatalf("Then(%v, %v): %v", a, b, l)
		}
	}
	if back, has := perm.Inverse(a); is && has {
		unit, _ := perm.Then(a, back)
		if !slices.IsSorted(unit) {
			t.Fatalf("%v and its Inverse: %v", a, unit)
		}
	}
}

// What is told is new memory.
func TestP10_3_Memory(t *testing.T) {
	a, b := []int{1, 0, 2}, []int{2, 1, 0}
	l, _ := perm.Then(a, b)
	o, _ := perm.Inverse(a)
	clear(l)
	clear(o)
	if !slices.Equal(a, []int{1, 0, 2}) || !slices.Equal(b, []int{2, 1, 0}) {
		t.Error(a, b)
	}
	for _, kind := range kinds {
		first, _ := perm.Make(kind, 3, 3, 4)
		again, _ := perm.Make(kind, 3, 3, 4)
		clear(first)
		if !slices.Equal(again, want(kind, 3, 3, 4)) {
			t.Errorf("kind %d: %v", kind, again)
		}
	}
}

func TestP10_4_Names(t *testing.T) {
	for i, name := range []string{"straight", "back", "columns", "snake", "spiral", "mixed"} {
		if kinds[i] != i || perm.Name(i) != name {
			t.Errorf("Name(%d): %q", i, perm.Name(i))
		}
		if kind, is := perm.Kind(name); kind != i || !is {
			t.Errorf("Kind(%q): %d %v", name, kind, is)
		}
	}
	for _, kind := range []int{-1, 6, 7, math.MinInt, math.MaxInt} {
		if s := perm.Name(kind); s != "" {
			t.Errorf("Name(%d): %q", kind, s)
		}
	}
	for _, s := range []string{"", " ", "Straight", "straigh", "straight ", " back", "mixed\n", "MIXED", "0", "\xff", "spirale"} {
		if kind, is := perm.Kind(s); kind != 0 || is {
			t.Errorf("Kind(%q): %d %v", s, kind, is)
		}
	}
}

// every is what all calls tell.
func every(kind, cols, rows int, seed uint64, a, b []int) string {
	l, e := perm.Make(kind, cols, rows, seed)
	o, is1 := perm.Inverse(a)
	both, is2 := perm.Then(a, b)
	named, is3 := perm.Kind(perm.Name(kind))
	return fmt.Sprint(l, e, o, is1, both, is2, named, is3, perm.Is(a, len(b)))
}

// P1 and P2: all end at all edges, wrong lists too, and tell the same again, whatever was called between.
func TestP1_P2_TheSameAgain(t *testing.T) {
	lists := append(append(orders(3), orders(4)...), no...)
	numbers := []int{0, 1, 2, 3, 4, 5, 6, -1, math.MinInt, math.MaxInt}
	told := func(i int) string {
		return every(numbers[i%10], numbers[i/3%10], numbers[i/7%10], seeds[i%7], lists[i%len(lists)], lists[i/5%len(lists)])
	}
	var first []string
	for i := range 5000 {
		first = append(first, told(i))
	}
	for i := len(first) - 1; i >= 0; i-- {
		if again := told(i); again != first[i] {
			t.Fatalf("%d: %s, then %s", i, first[i], again)
		}
	}
}
