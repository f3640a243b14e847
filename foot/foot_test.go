package foot_test

import (
	"fmt"
	"math"
	"slices"
	"testing"

	"anamorph/api"
	"anamorph/border"
	"anamorph/foot"
)

const (
	far     = 1 << 62
	longest = 1 << 31
)

// modes are the four, and such as are none.
var modes = []int{api.Const, api.Clamp, api.Wrap, api.Mirror, -1, 4, 5, 1 << 32, -1 << 32, math.MinInt, math.MaxInt}

// next is numbers without any pattern.
func next(x *uint64, n int) int {
	*x = *x*6364136223846793005 + 1442695040888963407
	return int(*x>>33) % n
}

// lists are runs: none, empty ones, some that touch, lie within each other, or apart, and some without any pattern.
func lists() [][]foot.Run {
	l := [][]foot.Run{
		nil, {}, {{0, 0}}, {{5, 3}}, {{0, 1}}, {{0, 1}, {1, 2}}, {{1, 2}, {0, 1}}, {{0, 2}, {3, 4}}, {{3, 4}, {0, 2}}, {{0, 9}, {2, 3}}, {{2, 3}, {0, 9}}, {{2, 5}, {2, 9}, {2, 3}},
		{{0, 4}, {2, 6}, {5, 9}, {12, 14}, {11, 12}}, {{-3, 0}, {0, 2}}, {{-5, -2}, {-9, -7}}, {{4, 4}, {2, 6}, {7, 7}}, {{2, 4}, {4, 4}, {5, 5}}, {{3, 3}, {2, 2}, {1, 1}}, {{1, 3}, {1, 3}, {1, 3}},
		{{4, 3}, {1, 2}, {6, 5}, {2, 3}}, {{9, 2}, {3, 4}}, {{0, 1}, {2, 3}, {4, 5}, {1, 2}, {3, 4}},
	}
	x := uint64(1)
	for n := range 300 {
		var r []foot.Run
		for range n % 9 {
			a := next(&x, 40) - 10
			r = append(r, foot.Run{A: a, B: a + next(&x, 9) - 2})
		}
		l = append(l, r)
	}
	return l
}

// has tells whether runs have a thing, as the document tells it.
func has(l []foot.Run, i int) bool {
	return slices.ContainsFunc(l, func(r foot.Run) bool { return !(i < r.A) && i < r.B })
}

// runs are things from one on, below another one, that are of some, as the fewest runs there are.
func runs(from, to int, is func(i int) bool) []foot.Run {
	var l []foot.Run
	for i := from; i < to; i++ {
		switch {
		case !is(i):
		case len(l) > 0 && l[len(l)-1].B == i:
			l[len(l)-1].B++
		default:
			l = append(l, foot.Run{A: i, B: i + 1})
		}
	}
	return l
}

func TestP38_1_Join(t *testing.T) {
	for _, l := range lists() {
		own := slices.Clone(l)
		want := runs(-20, 60, func(i int) bool { return has(l, i) })
		got := foot.Join(l)
		if !slices.Equal(got, want) {
			t.Errorf("Join(%v): %v, not %v", l, got, want)
		}
		if !slices.Equal(l, own) {
			t.Errorf("Join(%v) left %v", own, l)
		}
		clear(got)
		if !slices.Equal(l, own) || !slices.Equal(foot.Join(l), want) {
			t.Errorf("Join(%v) shares what it tells", own)
		}
	}
}

func TestP38_1_JoinEnds(t *testing.T) {
	const least, most = math.MinInt, math.MaxInt
	for _, c := range []struct{ l, want []foot.Run }{
		{[]foot.Run{{least, most}}, []foot.Run{{least, most}}},
		{[]foot.Run{{most, least}}, nil},
		{[]foot.Run{{most, most}, {least, least}}, nil},
		{[]foot.Run{{0, most}, {least, 0}}, []foot.Run{{least, most}}},
		{[]foot.Run{{1, most}, {least, 0}}, []foot.Run{{least, 0}, {1, most}}},
		{[]foot.Run{{most - 1, most}, {least, least + 1}, {least + 2, 5}}, []foot.Run{{least, least + 1}, {least + 2, 5}, {most - 1, most}}},
		{[]foot.Run{{most, most - 1}, {3, 4}, {0, least}}, []foot.Run{{3, 4}}},
	} {
		if got := foot.Join(c.l); !slices.Equal(got, c.want) {
			t.Errorf("Join(%v): %v, not %v", c.l, got, c.want)
		}
	}
}

func TestP38_1_Count(t *testing.T) {
	for _, l := range lists() {
		want := 0
		for i := -20; i < 60; i++ {
			if has(l, i) {
				want++
			}
		}
		if n := foot.Count(l); n != want {
			t.Errorf("Count(%v): %d, not %d", l, n, want)
		}
	}
	const least, most = math.MinInt, math.MaxInt
	for _, c := range []struct {
		l    []foot.Run
		want int
	}{
		{[]foot.Run{{0, most}}, most}, {[]foot.Run{{1, most}}, most - 1}, {[]foot.Run{{-1, most}}, most}, {[]foot.Run{{least, most}}, most}, {[]foot.Run{{least, 0}}, most}, {[]foot.Run{{least + 1, 0}}, most},
		{[]foot.Run{{least + 2, 0}}, most - 1}, {[]foot.Run{{least, -5}, {-2, 2}}, most}, {[]foot.Run{{least, -6}, {-2, 2}}, most - 1}, {[]foot.Run{{least, -1}, {1, most}}, most}, {[]foot.Run{{most, least}}, 0}, {[]foot.Run{{0, most}, {5, most}, {0, most}}, most},
		{[]foot.Run{{0, 5}, {3, 8}, {20, 21}}, 9},
	} {
		if n := foot.Count(c.l); n != c.want {
			t.Errorf("Count(%v): %d, not %d", c.l, n, c.want)
		}
	}
}

func TestP38_1_Has(t *testing.T) {
	for _, l := range lists() {
		for i := -20; i < 60; i++ {
			if foot.Has(l, i) != has(l, i) {
				t.Errorf("Has(%v, %d): %v", l, i, !has(l, i))
			}
		}
	}
	const least, most = math.MinInt, math.MaxInt
	for _, c := range []struct {
		r    foot.Run
		i    int
		want bool
	}{{foot.Run{A: least, B: most}, least, true}, {foot.Run{A: least, B: most}, most, false}, {foot.Run{A: least, B: most}, most - 1, true}, {foot.Run{A: most, B: least}, 0, false}, {foot.Run{A: most, B: most}, most, false}, {foot.Run{A: 3, B: 4}, 3, true}, {foot.Run{A: 3, B: 4}, 4, false}, {foot.Run{A: 3, B: 4}, 2, false}} {
		if foot.Has([]foot.Run{{8, 8}, c.r}, c.i) != c.want {
			t.Errorf("Has(%v, %d): %v", c.r, c.i, !c.want)
		}
	}
}

// columns is what border.Index tells of all columns from lo to hi.
func columns(mode int, lo, hi int64, n int) []foot.Run {
	is := map[int]int{}
	for i := lo; i <= hi; i++ {
		if k, has := border.Index(mode, i, n); has {
			is[k]++
		}
	}
	return runs(0, n, func(i int) bool { return is[i] > 0 })
}

func TestP38_2_Columns(t *testing.T) {
	for _, mode := range modes[:4] {
		for n := 1; n <= 6; n++ {
			for lo := int64(-27); lo <= 27; lo++ {
				for hi := lo; hi <= lo+20; hi++ {
					if got, want := foot.Columns(mode, lo, hi, n), columns(mode, lo, hi, n); !slices.Equal(got, want) {
						t.Fatalf("Columns(%d, %d, %d, %d): %v, not %v", mode, lo, hi, n, got, want)
					}
				}
			}
		}
	}
}

// Columns far from 0, at the ends of what may be asked, and rows as long as may be.
func TestP38_2_Far(t *testing.T) {
	for _, mode := range modes[:4] {
		for _, n := range []int{1, 2, 3, 5, 7, 1000, longest - 1, longest} {
			if n <= 1000 {
				for _, from := range []int64{-far, far - 12, 1 << 46, -1 << 46, 1<<61 - 5, -1<<61 - 5} {
					for long := range int64(12) {
						if got, want := foot.Columns(mode, from, from+long, n), columns(mode, from, from+long, n); !slices.Equal(got, want) {
							t.Fatalf("Columns(%d, %d, %d, %d): %v, not %v", mode, from, from+long, n, got, want)
						}
					}
				}
			}
			all := []foot.Run{{0, n}}
			for _, e := range [][2]int64{{-far, far}, {-far, far - 1}, {1 - far, far}, {0, far}, {-int64(n), int64(n)}, {-5, far}, {-far, int64(n) - 1}, {0, int64(n) - 1}} {
				if got := foot.Columns(mode, e[0], e[1], n); !slices.Equal(got, all) {
					t.Errorf("Columns(%d, %d, %d, %d): %v", mode, e[0], e[1], n, got)
				}
			}
		}
	}
	const half, last = longest / 2, longest - 1
	for _, c := range []struct {
		mode   int
		lo, hi int64
		n      int
		want   []foot.Run
	}{
		{api.Wrap, -1, 1, 5, []foot.Run{{0, 2}, {4, 5}}}, {api.Mirror, -2, 0, 5, []foot.Run{{0, 2}}}, {api.Wrap, -1, 1, 3, []foot.Run{{0, 3}}}, {api.Mirror, 3, 5, 5, []foot.Run{{3, 5}}}, {api.Mirror, 4, 7, 5, []foot.Run{{2, 5}}},
		{api.Const, -1, 1, 5, []foot.Run{{0, 2}}}, {api.Const, -3, -1, 5, nil}, {api.Const, 5, 9, 5, nil}, {api.Const, 4, 9, 5, []foot.Run{{4, 5}}}, {api.Clamp, -3, -1, 5, []foot.Run{{0, 1}}}, {api.Clamp, 5, 9, 5, []foot.Run{{4, 5}}}, {api.Clamp, 3, 3, 5, []foot.Run{{3, 4}}},
		{api.Const, -far, -1, 5, nil}, {api.Const, 5, far, 5, nil}, {api.Clamp, -far, -far, 5, []foot.Run{{0, 1}}}, {api.Clamp, far, far, 5, []foot.Run{{4, 5}}},
		{api.Wrap, last, longest, longest, []foot.Run{{0, 1}, {last, longest}}}, {api.Wrap, -half, half, longest, []foot.Run{{0, longest}}}, {api.Wrap, -half, half - 2, longest, []foot.Run{{0, half - 1}, {half, longest}}}, {api.Wrap, -half, half - 1, longest, []foot.Run{{0, longest}}},
		{api.Mirror, -half, -1, longest, []foot.Run{{0, half}}}, {api.Mirror, longest, longest + 5, longest, []foot.Run{{longest - 6, longest}}}, {api.Mirror, 2 * longest, 2*longest + 5, longest, []foot.Run{{0, 6}}}, {api.Mirror, -far, -far, longest, []foot.Run{{0, 1}}}, {api.Mirror, far, far, longest, []foot.Run{{0, 1}}},
		{api.Wrap, far, far, longest, []foot.Run{{0, 1}}}, {api.Wrap, far - 1, far - 1, longest, []foot.Run{{last, longest}}}, {api.Wrap, -far, -far, longest, []foot.Run{{0, 1}}},
	} {
		if got := foot.Columns(c.mode, c.lo, c.hi, c.n); !slices.Equal(got, c.want) {
			t.Errorf("Columns(%d, %d, %d, %d): %v, not %v", c.mode, c.lo, c.hi, c.n, got, c.want)
		}
	}
}

func TestP38_2_Wrong(t *testing.T) {
	none := func(mode int, lo, hi int64, n int) {
		t.Helper()
		if l := foot.Columns(mode, lo, hi, n); len(l) != 0 {
			t.Errorf("Columns(%d, %d, %d, %d): %v", mode, lo, hi, n, l)
		}
	}
	for _, mode := range modes {
		for _, n := range []int{0, -1, -5, longest + 1, 1 << 32, 1<<32 + 1, math.MinInt, math.MaxInt} {
			none(mode, 0, 0, n)
			none(mode, -3, 9, n)
			none(mode, -far, far, n)
		}
		for _, n := range []int{1, 5, longest} {
			for _, e := range [][2]int64{{1, 0}, {far, -far}, {math.MaxInt64, math.MinInt64}, {-far - 1, 0}, {0, far + 1}, {-far - 1, -far - 1}, {far + 1, far + 1}, {math.MinInt64, math.MinInt64}, {math.MaxInt64, math.MaxInt64}, {math.MinInt64, math.MaxInt64}, {-far - 1, far}, {-far, far + 1}} {
				none(mode, e[0], e[1], n)
			}
			if mode < api.Const || mode > api.Mirror {
				none(mode, 0, 0, n)
				none(mode, -far, far, n)
			}
		}
	}
}

func TestP38_3_NoLess(t *testing.T) {
	x := uint64(4)
	for range 20000 {
		mode, n := modes[next(&x, 4)], next(&x, 30)+1
		lo := int64(next(&x, 200) - 100)
		hi := lo + int64(next(&x, 70))
		less := foot.Columns(mode, lo, hi, n)
		more := foot.Columns(mode, lo-int64(next(&x, 9)), hi+int64(next(&x, 9)), n)
		for i := range n {
			if foot.Has(less, i) && !foot.Has(more, i) {
				t.Fatalf("Columns(%d, %d, %d, %d): %v, of more %v", mode, lo, hi, n, less, more)
			}
		}
	}
}

func TestP38_3_Period(t *testing.T) {
	for _, mode := range []int{api.Wrap, api.Mirror} {
		for _, n := range []int{1, 2, 3, 8, 100, 12345, longest - 1, longest} {
			p := int64(border.Period(mode, n))
			for _, lo := range []int64{0, 1, -1, 5, -p, p - 1, 77777777, -1 << 40, far - p, -far, far - p + 1} {
				if got := foot.Columns(mode, lo, lo+p-1, n); !slices.Equal(got, []foot.Run{{0, n}}) {
					t.Errorf("Columns(%d, %d, %d, %d): %v", mode, lo, lo+p-1, n, got)
				}
			}
		}
	}
}

// P1 and P2: all end at all edges, wrong ones too, and tell the same again, whatever was called between.
func TestP1_P2_TheSameAgain(t *testing.T) {
	edges := []int64{math.MinInt64, -far - 1, -far, -1 << 46, -9, -1, 0, 1, 3, 8, 1 << 46, far, far + 1, math.MaxInt64}
	l := lists()
	told := func(i int) string {
		lo, hi := edges[i%len(edges)], edges[i*5%len(edges)]
		r := []foot.Run{{int(lo), int(hi)}, {i % 5, i % 9}, {int(hi), int(lo)}}
		return fmt.Sprint(foot.Columns(modes[i%len(modes)], lo, hi, i%23-2), foot.Join(r), foot.Count(r), foot.Has(r, i%11), foot.Join(l[i%len(l)]))
	}
	var first []string
	for i := range 20000 {
		first = append(first, told(i))
	}
	for i := len(first) - 1; i >= 0; i-- {
		if again := told(i); again != first[i] {
			t.Fatalf("%d: %s, then %s", i, first[i], again)
		}
	}
}
