package ages_test

import (
	"fmt"
	"math"
	"slices"
	"testing"

	"anamorph/ages"
)

// ends are things of any number.
var ends = []int{0, 1, -1, 2, 7, 1 << 32, -1 << 40, math.MinInt, math.MinInt + 1, math.MaxInt, math.MaxInt - 1}

// next is numbers without any pattern.
func next(x *uint64, n int) int {
	*x = *x*6364136223846793005 + 1442695040888963407
	return int(*x>>33) % n
}

// list is things as the document tells them: the one that was touched longest ago first.
type list []int

func (l *list) drop(k int) bool {
	i := slices.Index(*l, k)
	if i < 0 {
		return false
	}
	*l = slices.Delete(*l, i, i+1)
	return true
}

func (l *list) touch(k int) {
	l.drop(k)
	*l = append(*l, k)
}

func (l *list) oldest() (int, bool) {
	if len(*l) == 0 {
		return 0, false
	}
	return (*l)[0], true
}

func (l *list) pop() (int, bool) {
	k, is := l.oldest()
	l.drop(k)
	return k, is
}

// alike checks all that may be asked without changing anything.
func alike(t *testing.T, a *ages.Ages, l list, asked ...int) {
	t.Helper()
	if a.Len() != len(l) {
		t.Fatalf("Len: %d, not %d", a.Len(), len(l))
	}
	if all := a.All(); !slices.Equal(all, l) {
		t.Fatalf("All: %v, not %v", all, l)
	}
	k, is := a.Oldest()
	if want, has := l.oldest(); k != want || is != has {
		t.Fatalf("Oldest: %d %v, not %d %v", k, is, want, has)
	}
	for _, k := range asked {
		if a.Has(k) != slices.Contains(l, k) {
			t.Fatalf("Has(%d) of %v: %v", k, l, a.Has(k))
		}
	}
}

func TestP40_1_ByHand(t *testing.T) {
	a := ages.New()
	alike(t, a, nil, 0, 1)
	for i, want := range []list{{1}, {1, 2}, {2, 1}, {2, 1}, {2, 1, 0}} {
		a.Touch([]int{1, 2, 1, 1, 0}[i])
		alike(t, a, want, 0, 1, 2, 3)
	}
	if a.Drop(3) || !a.Drop(1) || a.Drop(1) {
		t.Error("what is dropped was there, or isn't told")
	}
	alike(t, a, list{2, 0}, 0, 1, 2)
	for i, want := range []int{2, 0, 0} {
		if k, is := a.Pop(); k != want || is != (i < 2) {
			t.Errorf("Pop: %d %v", k, is)
		}
	}
	alike(t, a, nil, 0, 1, 2)
}

func TestP40_1_NewAreApart(t *testing.T) {
	a, b := ages.New(), ages.New()
	if a == nil || b == nil {
		t.Fatal("none")
	}
	a.Touch(5)
	alike(t, a, list{5}, 5)
	alike(t, b, nil, 5)
}

func TestP40_1_Ends(t *testing.T) {
	a := ages.New()
	var l list
	for _, k := range append(ends, ends[3:7]...) {
		a.Touch(k)
		l.touch(k)
		alike(t, a, l, ends...)
	}
	for _, k := range []int{math.MinInt, 0, 7, 3, math.MaxInt, 0} {
		if is := a.Drop(k); is != l.drop(k) {
			t.Errorf("Drop(%d): %v", k, is)
		}
		alike(t, a, l, ends...)
	}
}

// Whatever is done, in whichever order: few things, that come and go often, and many.
func TestP40_1_Any(t *testing.T) {
	x := uint64(1)
	for _, things := range []int{1, 2, 3, 5, 9, 40, 300} {
		a, l := ages.New(), list{}
		for n := range 4000 {
			k := next(&x, things) - things/3
			switch next(&x, 8) {
			case 0, 1, 2, 3:
				a.Touch(k)
				l.touch(k)
			case 4, 5:
				if is := a.Drop(k); is != l.drop(k) {
					t.Fatalf("Drop(%d): %v", k, is)
				}
			case 6:
				got, is := a.Pop()
				if want, has := l.pop(); got != want || is != has {
					t.Fatalf("Pop: %d %v, not %d %v", got, is, want, has)
				}
			}
			if things < 40 || n%50 == 0 {
				alike(t, a, l, k, k+1, things, -things)
			}
		}
		for range len(l) + 2 {
			got, is := a.Pop()
			if want, has := l.pop(); got != want || is != has {
				t.Fatalf("Pop: %d %v, not %d %v", got, is, want, has)
			}
			alike(t, a, l, 0, 1)
		}
	}
}

func TestP40_1_Many(t *testing.T) {
	const n = 100000
	a := ages.New()
	for k := range n {
		a.Touch(k)
	}
	for k := 0; k < n; k += 2 {
		a.Touch(k)
	}
	for k := 0; k < n; k += 10 {
		if !a.Drop(k) {
			t.Fatal(k)
		}
	}
	var want []int
	for k := 1; k < n; k += 2 {
		want = append(want, k)
	}
	for k := 0; k < n; k += 2 {
		if k%10 != 0 {
			want = append(want, k)
		}
	}
	if a.Len() != len(want) || !slices.Equal(a.All(), want) {
		t.Error("All is otherwise")
	}
	for _, k := range want {
		if got, is := a.Pop(); got != k || !is {
			t.Fatalf("Pop: %d %v, not %d", got, is, k)
		}
	}
}

func TestP40_2_None(t *testing.T) {
	var a *ages.Ages
	for range 2 {
		for _, k := range ends {
			a.Touch(k)
			if a.Drop(k) {
				t.Errorf("Drop(%d) of none", k)
			}
		}
		if k, is := a.Pop(); k != 0 || is {
			t.Errorf("Pop of none: %d %v", k, is)
		}
		alike(t, a, nil, ends...)
	}
}

func TestP40_2_Zero(t *testing.T) {
	var a ages.Ages
	alike(t, &a, nil, ends...)
	if k, is := a.Pop(); k != 0 || is || a.Drop(0) {
		t.Errorf("Pop of a zero one: %d %v", k, is)
	}
	var l list
	for _, k := range []int{5, 3, 5, 9, 3} {
		a.Touch(k)
		l.touch(k)
		alike(t, &a, l, 3, 5, 9)
	}
	if k, is := a.Pop(); k != 5 || !is {
		t.Errorf("Pop: %d %v", k, is)
	}
	alike(t, &a, list{9, 3}, 3, 5, 9)
}

// P1 and P2: the same calls tell the same; what is told is new memory.
func TestP1_P2_TheSameAgain(t *testing.T) {
	told := func() string {
		a, x, s := ages.New(), uint64(3), ""
		for range 500 {
			k := ends[next(&x, len(ends))]
			a.Touch(k)
			if next(&x, 3) == 0 {
				s += fmt.Sprint(a.Drop(ends[next(&x, len(ends))]))
			}
			if next(&x, 5) == 0 {
				s += fmt.Sprintln(a.Pop())
			}
			all := a.All()
			s += fmt.Sprintln(all, a.Len(), a.Has(k))
			clear(all[:cap(all)])
			s += fmt.Sprintln(a.Oldest())
		}
		return s
	}
	if told() != told() {
		t.Error("it changes")
	}
	a := ages.New()
	a.Touch(4)
	a.Touch(6)
	clear(a.All())
	alike(t, a, list{4, 6}, 0, 4, 6)
}
