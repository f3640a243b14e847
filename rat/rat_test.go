package rat_test

import (
	"fmt"
	"math"
	"math/big"
	"slices"
	"testing"

	"anamorph/rat"
)

var (
	above = []int64{
		0, 1, -1, 2, -2, 3, -3, 4, 5, -6, 7, 12, -15, 65536, -65535, 1 << 31, -1 << 31, 1<<32 + 1,
		1 << 61, 1 << 62, -1 << 62, 3037000500, -3037000499, math.MaxInt64, math.MaxInt64 - 1, math.MinInt64, math.MinInt64 + 1,
	}
	below = []int64{1, 2, 3, 4, 6, 7, 12, 15, 65536, 1 << 31, 1<<32 - 1, 3037000500, 1 << 61, 1 << 62, math.MaxInt64, math.MaxInt64 - 1}
	wrong = []rat.Rat{{}, {N: 1}, {N: -1}, {N: 1, D: -1}, {N: -1, D: -1}, {N: 3, D: -2}, {D: -1}, {N: math.MinInt64, D: math.MinInt64}, {N: math.MaxInt64, D: math.MinInt64}}
)

// fractions are right ones, of all edges.
func fractions() []rat.Rat {
	var l []rat.Rat
	for _, n := range above {
		for _, d := range below {
			l = append(l, rat.Rat{N: n, D: d})
		}
	}
	return l
}

func number(a rat.Rat) *big.Rat { return big.NewRat(a.N, a.D) }

// hold checks an answer against a number, told by the least divisor.
func hold(t *testing.T, what string, got rat.Rat, is bool, n *big.Rat) {
	t.Helper()
	want, has := rat.Rat{}, n.Num().IsInt64() && n.Denom().IsInt64()
	if has {
		want = rat.Rat{N: n.Num().Int64(), D: n.Denom().Int64()}
	}
	if got != want || is != has {
		t.Fatalf("%s: %v %v, not %v %v", what, got, is, want, has)
	}
}

func TestP3_1_Right(t *testing.T) {
	for _, a := range fractions() {
		if !rat.Right(a) {
			t.Fatalf("Right(%v)", a)
		}
	}
	for _, a := range wrong {
		if rat.Right(a) {
			t.Errorf("Right(%v)", a)
		}
	}
}

func TestP3_1_NothingOfWrongOnes(t *testing.T) {
	for _, w := range wrong {
		if a, is := rat.Least(w); a != (rat.Rat{}) || is {
			t.Errorf("Least(%v): %v %v", w, a, is)
		}
		if n, is := rat.Floor(w); n != 0 || is {
			t.Errorf("Floor(%v): %d %v", w, n, is)
		}
		if n, is := rat.Near(w); n != 0 || is {
			t.Errorf("Near(%v): %d %v", w, n, is)
		}
		for _, r := range append([]rat.Rat{{N: 1, D: 1}, {N: 0, D: 1}, {N: -7, D: 2}}, wrong...) {
			nothing(t, w, r)
			nothing(t, r, w)
		}
	}
}

// nothing checks that of two fractions, one of them wrong, nothing is told.
func nothing(t *testing.T, a, b rat.Rat) {
	t.Helper()
	if c, is := rat.Cmp(a, b); c != 0 || is {
		t.Errorf("Cmp(%v, %v): %d %v", a, b, c, is)
	}
	if s, is := rat.Add(a, b); s != (rat.Rat{}) || is {
		t.Errorf("Add(%v, %v): %v %v", a, b, s, is)
	}
	if p, is := rat.Mul(a, b); p != (rat.Rat{}) || is {
		t.Errorf("Mul(%v, %v): %v %v", a, b, p, is)
	}
}

func TestP3_1_NoOrderOfWrongOnes(t *testing.T) {
	for _, w := range wrong {
		for at := range 4 {
			l := slices.Insert([]rat.Rat{{N: 3, D: 1}, {N: 1, D: 2}, {N: 2, D: 1}}, at, w)
			if s := rat.Sort(l); len(s) != 0 {
				t.Errorf("Sort(%v): %v", l, s)
			}
		}
		if s := rat.Sort([]rat.Rat{w}); len(s) != 0 {
			t.Errorf("Sort of %v alone: %v", w, s)
		}
	}
}

func TestP3_2_Least(t *testing.T) {
	for _, c := range []struct{ a, want rat.Rat }{
		{rat.Rat{N: 2, D: 4}, rat.Rat{N: 1, D: 2}}, {rat.Rat{N: -6, D: 4}, rat.Rat{N: -3, D: 2}}, {rat.Rat{N: 0, D: 9}, rat.Rat{N: 0, D: 1}},
		{rat.Rat{N: 7, D: 7}, rat.Rat{N: 1, D: 1}}, {rat.Rat{N: 5, D: 3}, rat.Rat{N: 5, D: 3}},
		{rat.Rat{N: math.MinInt64, D: 1 << 62}, rat.Rat{N: -2, D: 1}}, {rat.Rat{N: math.MinInt64, D: 1}, rat.Rat{N: math.MinInt64, D: 1}},
		{rat.Rat{N: math.MaxInt64, D: math.MaxInt64}, rat.Rat{N: 1, D: 1}}, {rat.Rat{N: 0, D: math.MaxInt64}, rat.Rat{N: 0, D: 1}},
	} {
		if got, is := rat.Least(c.a); got != c.want || !is {
			t.Errorf("Least(%v): %v %v", c.a, got, is)
		}
	}
	for _, a := range fractions() {
		got, is := rat.Least(a)
		hold(t, fmt.Sprintf("Least(%v)", a), got, is, number(a))
	}
}

func TestP3_2_SumsAndProducts(t *testing.T) {
	sumsAndProducts(t, fractions())
}

// sumsAndProducts checks Add and Mul of each two fractions.
func sumsAndProducts(t *testing.T, all []rat.Rat) {
	t.Helper()
	for _, a := range all {
		for _, b := range all {
			s, is := rat.Add(a, b)
			hold(t, fmt.Sprintf("Add(%v, %v)", a, b), s, is, new(big.Rat).Add(number(a), number(b)))
			p, is := rat.Mul(a, b)
			hold(t, fmt.Sprintf("Mul(%v, %v)", a, b), p, is, new(big.Rat).Mul(number(a), number(b)))
		}
	}
}

func TestP3_2_SmallOnes(t *testing.T) {
	var all []rat.Rat
	for n := int64(-9); n <= 9; n++ {
		for d := int64(1); d <= 12; d++ {
			all = append(all, rat.Rat{N: n, D: d})
		}
	}
	sumsAndProducts(t, all)
}

func TestP3_2_Room(t *testing.T) {
	for _, c := range []struct {
		what string
		do   func(a, b rat.Rat) (rat.Rat, bool)
		a, b rat.Rat
		want rat.Rat
		is   bool
	}{
		{"1/6 and 1/3", rat.Add, rat.Rat{N: 1, D: 6}, rat.Rat{N: 1, D: 3}, rat.Rat{N: 1, D: 2}, true},
		{"1/3 and -1/3", rat.Add, rat.Rat{N: 1, D: 3}, rat.Rat{N: -1, D: 3}, rat.Rat{N: 0, D: 1}, true},
		{"the greatest and 1", rat.Add, rat.Rat{N: math.MaxInt64, D: 1}, rat.Rat{N: 1, D: 1}, rat.Rat{}, false},
		{"the greatest and 0", rat.Add, rat.Rat{N: math.MaxInt64, D: 1}, rat.Rat{N: 0, D: 8}, rat.Rat{N: math.MaxInt64, D: 1}, true},
		{"the least and 1", rat.Add, rat.Rat{N: math.MinInt64, D: 1}, rat.Rat{N: 1, D: 1}, rat.Rat{N: math.MinInt64 + 1, D: 1}, true},
		{"the least and -1", rat.Add, rat.Rat{N: math.MinInt64, D: 1}, rat.Rat{N: -1, D: 1}, rat.Rat{}, false},
		{"the least twice, by 2", rat.Add, rat.Rat{N: math.MinInt64, D: 2}, rat.Rat{N: math.MinInt64, D: 2}, rat.Rat{N: math.MinInt64, D: 1}, true},
		{"the greatest twice, by the greatest", rat.Add, rat.Rat{N: math.MaxInt64, D: math.MaxInt64}, rat.Rat{N: math.MaxInt64, D: math.MaxInt64}, rat.Rat{N: 2, D: 1}, true},
		{"a divisor without room", rat.Add, rat.Rat{N: 1, D: math.MaxInt64}, rat.Rat{N: 1, D: 2}, rat.Rat{}, false},
		{"great divisors that go out", rat.Add, rat.Rat{N: 1, D: 1 << 62}, rat.Rat{N: 1, D: 1 << 62}, rat.Rat{N: 1, D: 1 << 61}, true},
		{"2/3 times 3/4", rat.Mul, rat.Rat{N: 2, D: 3}, rat.Rat{N: 3, D: 4}, rat.Rat{N: 1, D: 2}, true},
		{"turned over", rat.Mul, rat.Rat{N: math.MaxInt64, D: 5}, rat.Rat{N: 5, D: math.MaxInt64}, rat.Rat{N: 1, D: 1}, true},
		{"the least times -1", rat.Mul, rat.Rat{N: math.MinInt64, D: 1}, rat.Rat{N: -1, D: 1}, rat.Rat{}, false},
		{"the least times 1", rat.Mul, rat.Rat{N: math.MinInt64, D: 1}, rat.Rat{N: 7, D: 7}, rat.Rat{N: math.MinInt64, D: 1}, true},
		{"2^62 times -2", rat.Mul, rat.Rat{N: 1 << 62, D: 1}, rat.Rat{N: -2, D: 1}, rat.Rat{N: math.MinInt64, D: 1}, true},
		{"2^62 times 2", rat.Mul, rat.Rat{N: 1 << 62, D: 1}, rat.Rat{N: 2, D: 1}, rat.Rat{}, false},
		{"0 of great divisors", rat.Mul, rat.Rat{N: 0, D: math.MaxInt64}, rat.Rat{N: 5, D: math.MaxInt64}, rat.Rat{N: 0, D: 1}, true},
		{"a divisor without room", rat.Mul, rat.Rat{N: 1, D: 1 << 62}, rat.Rat{N: 1, D: 2}, rat.Rat{}, false},
	} {
		if got, is := c.do(c.a, c.b); got != c.want || is != c.is {
			t.Errorf("%s: %v %v, not %v %v", c.what, got, is, c.want, c.is)
		}
	}
}

func TestP3_3_Cmp(t *testing.T) {
	for _, c := range []struct {
		a, b rat.Rat
		want int
	}{
		{rat.Rat{N: 1, D: 3}, rat.Rat{N: 2, D: 6}, 0}, {rat.Rat{N: 1, D: 3}, rat.Rat{N: 1, D: 2}, -1}, {rat.Rat{N: -1, D: 3}, rat.Rat{N: -1, D: 2}, 1},
		{rat.Rat{N: 0, D: 1}, rat.Rat{N: 0, D: 5}, 0}, {rat.Rat{N: math.MaxInt64, D: math.MaxInt64 - 1}, rat.Rat{N: math.MaxInt64 - 1, D: math.MaxInt64}, 1},
		{rat.Rat{N: math.MinInt64, D: math.MaxInt64}, rat.Rat{N: math.MinInt64, D: math.MaxInt64 - 1}, 1},
	} {
		if got, is := rat.Cmp(c.a, c.b); got != c.want || !is {
			t.Errorf("Cmp(%v, %v): %d %v", c.a, c.b, got, is)
		}
	}
	all := fractions()
	for _, a := range all {
		for _, b := range all {
			if got, is := rat.Cmp(a, b); got != number(a).Cmp(number(b)) || !is {
				t.Fatalf("Cmp(%v, %v): %d %v", a, b, got, is)
			}
		}
	}
}

// mixed is many fractions, a lot of them of the same number in other forms, without any order.
func mixed(n int) []rat.Rat {
	var l []rat.Rat
	x := uint64(7)
	for range n {
		x = x*6364136223846793005 + 1442695040888963407
		k := int64(x>>60) + 1
		l = append(l, rat.Rat{N: (int64(x>>33)%7 - 3) * k, D: (int64(x>>40)%4 + 1) * k})
	}
	return l
}

func TestP3_3_Sort(t *testing.T) {
	for _, l := range [][]rat.Rat{nil, {}, {{N: 6, D: 4}}, {{N: 2, D: 4}, {N: 1, D: 2}, {N: 3, D: 6}}, {{N: 3, D: 1}, {N: -2, D: 1}, {N: 4, D: 2}, {N: 2, D: 1}, {N: -4, D: 2}},
		fractions(), mixed(2), mixed(13), mixed(100), mixed(3000)} {
		given := slices.Clone(l)
		want := slices.Clone(l)
		slices.SortStableFunc(want, func(a, b rat.Rat) int { return number(a).Cmp(number(b)) })
		got := rat.Sort(l)
		if !slices.Equal(got, want) {
			t.Fatalf("Sort of %d: %v, not %v", len(l), got, want)
		}
		if !slices.Equal(l, given) {
			t.Fatalf("Sort changed the %d that it was given", len(l))
		}
	}
	// By hand: those of one number as they stood, each as it is.
	got := rat.Sort([]rat.Rat{{N: 2, D: 4}, {N: -1, D: 1}, {N: 1, D: 2}, {N: 0, D: 3}, {N: 4, D: 8}, {N: -3, D: 3}})
	want := []rat.Rat{{N: -1, D: 1}, {N: -3, D: 3}, {N: 0, D: 3}, {N: 2, D: 4}, {N: 1, D: 2}, {N: 4, D: 8}}
	if !slices.Equal(got, want) {
		t.Errorf("%v", got)
	}
}

func TestP3_3_SortIsNewMemory(t *testing.T) {
	for _, l := range [][]rat.Rat{{{N: 1, D: 2}}, {{N: 1, D: 2}, {N: 2, D: 3}}, {{N: 2, D: 1}, {N: 1, D: 1}}} {
		given := slices.Clone(l)
		got := rat.Sort(l)
		for i := range got {
			got[i] = rat.Rat{N: 99, D: 99}
		}
		if !slices.Equal(l, given) {
			t.Errorf("Sort(%v) hands out what it was given", given)
		}
		if again := rat.Sort(l); len(again) != len(l) || again[0].N == 99 {
			t.Errorf("Sort(%v) keeps what it handed out", given)
		}
	}
	room := make([]rat.Rat, 1, 8)
	room[0] = rat.Rat{N: 1, D: 1}
	_ = append(rat.Sort(room), rat.Rat{N: 5, D: 5})
	if room[:2][1] != (rat.Rat{}) {
		t.Error("Sort shares what lies behind the list")
	}
}

func TestP3_4_Whole(t *testing.T) {
	for _, c := range []struct {
		a           rat.Rat
		floor, near int64
	}{
		{rat.Rat{N: 7, D: 2}, 3, 4}, {rat.Rat{N: -7, D: 2}, -4, -3}, {rat.Rat{N: 5, D: 3}, 1, 2}, {rat.Rat{N: -5, D: 3}, -2, -2},
		{rat.Rat{N: -4, D: 3}, -2, -1}, {rat.Rat{N: 4, D: 3}, 1, 1}, {rat.Rat{N: 6, D: 3}, 2, 2}, {rat.Rat{N: -6, D: 3}, -2, -2}, {rat.Rat{N: 0, D: 3}, 0, 0},
		{rat.Rat{N: 1, D: 2}, 0, 1}, {rat.Rat{N: -1, D: 2}, -1, 0}, {rat.Rat{N: math.MinInt64, D: 1}, math.MinInt64, math.MinInt64},
		{rat.Rat{N: math.MaxInt64, D: 2}, 1<<62 - 1, 1 << 62}, {rat.Rat{N: 1 << 62, D: math.MaxInt64}, 0, 1}, {rat.Rat{N: 1<<62 - 1, D: math.MaxInt64}, 0, 0},
	} {
		if n, is := rat.Floor(c.a); n != c.floor || !is {
			t.Errorf("Floor(%v): %d %v", c.a, n, is)
		}
		if n, is := rat.Near(c.a); n != c.near || !is {
			t.Errorf("Near(%v): %d %v", c.a, n, is)
		}
	}
	for _, a := range fractions() {
		// big's Div goes by a divisor above 0, and so rounds down.
		floor := new(big.Int).Div(big.NewInt(a.N), big.NewInt(a.D))
		if n, is := rat.Floor(a); n != floor.Int64() || !is {
			t.Fatalf("Floor(%v): %d %v", a, n, is)
		}
		twice := new(big.Int).Lsh(big.NewInt(a.N), 1)
		near := twice.Div(twice.Add(twice, big.NewInt(a.D)), new(big.Int).Lsh(big.NewInt(a.D), 1))
		if n, is := rat.Near(a); n != near.Int64() || !is {
			t.Fatalf("Near(%v): %d %v", a, n, is)
		}
	}
}

// every is what all calls tell of two fractions.
func every(a, b rat.Rat) string {
	l, is1 := rat.Least(a)
	c, is2 := rat.Cmp(a, b)
	s, is3 := rat.Add(a, b)
	p, is4 := rat.Mul(a, b)
	f, is5 := rat.Floor(a)
	n, is6 := rat.Near(a)
	return fmt.Sprint(rat.Right(a), l, is1, c, is2, s, is3, p, is4, f, is5, n, is6, rat.Sort([]rat.Rat{a, b, a}))
}

// P1 and P2: all end at all edges, wrong fractions too, and tell the same again, whatever was called between.
func TestP1_P2_TheSameAgain(t *testing.T) {
	all := append(fractions(), wrong...)
	var first []string
	for i, a := range all {
		first = append(first, every(a, all[(i*17+5)%len(all)]))
	}
	for i := len(all) - 1; i >= 0; i-- {
		if again := every(all[i], all[(i*17+5)%len(all)]); again != first[i] {
			t.Fatalf("%v: %s, then %s", all[i], first[i], again)
		}
	}
}
