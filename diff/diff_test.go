package diff_test

import (
	"fmt"
	"math"
	"math/big"
	"slices"
	"testing"

	"anamorph/api"
	"anamorph/diff"
	"anamorph/img"
)

// shapes are the sizes of small images: one pixel, one row, one column, and others.
var shapes = [][2]int{{1, 1}, {5, 1}, {1, 4}, {3, 2}, {4, 5}}

// some is an image whose bytes come by a rule, another one for each number.
func some(w, h, c, rule int) api.Image {
	m := api.Image{W: w, H: h, C: c}
	for i := range w * h * c {
		m.Pix = append(m.Pix, byte(i*(rule*38+7)+rule*rule*55))
	}
	return m
}

// bad is an image that isn't right, and its code.
type bad struct {
	m    api.Image
	want api.Errno
}

func wrong() []bad {
	return []bad{
		{api.Image{}, api.ErrArg}, {api.Image{W: 1, H: 1, C: 2, Pix: []byte{1, 2}}, api.ErrArg},
		{api.Image{W: 40000, H: 0, C: 1}, api.ErrLimit}, {api.Image{W: 2049, H: 2048, C: 4}, api.ErrLimit},
		{api.Image{W: 1, H: 1, C: 1}, api.ErrSize}, {api.Image{W: 0, H: 1, C: 1}, api.ErrSize}, {api.Image{W: 1, H: 1, C: 1, Pix: []byte{1, 2}}, api.ErrSize},
	}
}

// away is how far two numbers are apart.
func away(a, b byte) int {
	d := int(a) - int(b)
	if d < 0 {
		return -d
	}
	return d
}

// want is what Of must tell of two images of one size.
func want(a, b api.Image) diff.Diff {
	var d diff.Diff
	for y := a.H - 1; y >= 0; y-- {
		for x := a.W - 1; x >= 0; x-- {
			for k := a.C - 1; k >= 0; k-- {
				at := (y*a.W+x)*a.C + k
				by := away(a.Pix[at], b.Pix[at])
				if by > 0 {
					d.Count++
					d.X, d.Y, d.K = x, y, k // gone through from behind, the last one is the first
				}
				if by > d.Most {
					d.Most = by
				}
				d.Sum += uint64(by)
				d.Squares += uint64(by * by)
			}
		}
	}
	return d
}

// each calls do for pairs of images of one size.
func each(do func(a, b api.Image)) {
	for _, s := range shapes {
		for _, c := range []int{1, 3, 4} {
			for first := range 5 {
				for second := range 5 {
					do(some(s[0], s[1], c, first), some(s[0], s[1], c, second))
				}
				for at := range s[0] * s[1] * c {
					one := some(s[0], s[1], c, first)
					one.Pix[at] ^= byte(at + 1)
					do(some(s[0], s[1], c, first), one)
				}
			}
		}
	}
}

func TestP13_1_Check(t *testing.T) {
	right := some(2, 3, 1, 1)
	for _, w := range wrong() {
		for _, m := range []api.Image{right, some(9, 9, 4, 1), {C: 2}, {W: 1, H: 1, C: 1}, {W: 50000, C: 1}} {
			if e := diff.Check(w.m, m); e != w.want {
				t.Errorf("Check(%v, %v): %v, not %v", w.m, m, e, w.want)
			}
		}
		if e := diff.Check(right, w.m); e != w.want {
			t.Errorf("Check(right, %v): %v, not %v", w.m, e, w.want)
		}
	}
	for _, c := range []struct {
		a, b api.Image
		want api.Errno
	}{
		{some(2, 3, 1, 1), some(2, 3, 3, 1), api.ErrArg}, {some(2, 3, 4, 1), some(2, 3, 3, 1), api.ErrArg}, {some(2, 3, 4, 1), some(5, 1, 1, 1), api.ErrArg},
		{some(2, 3, 1, 1), some(3, 2, 1, 1), api.ErrSize}, {some(2, 3, 3, 1), some(2, 4, 3, 1), api.ErrSize}, {some(2, 3, 4, 1), some(1, 3, 4, 1), api.ErrSize},
		{some(2, 3, 1, 1), some(2, 3, 1, 4), api.OK}, {some(1, 1, 4, 1), some(1, 1, 4, 1), api.OK},
	} {
		if e := diff.Check(c.a, c.b); e != c.want {
			t.Errorf("Check(%v, %v): %v, not %v", c.a, c.b, e, c.want)
		}
	}
}

func TestP13_1_NothingElse(t *testing.T) {
	l := []api.Image{some(2, 3, 1, 1), some(2, 3, 3, 1), some(3, 2, 1, 1), some(9, 9, 4, 1)}
	for _, w := range wrong() {
		l = append(l, w.m)
	}
	for i, a := range l {
		for k, b := range l {
			if i == k && i < 4 {
				continue
			}
			e := diff.Check(a, b)
			if d, code := diff.Of(a, b); d != (diff.Diff{}) || code != e || e == api.OK {
				t.Errorf("Of(%v, %v): %v %v", a, b, d, code)
			}
			if m, code := diff.Map(a, b); m.W != 0 || m.H != 0 || m.C != 0 || len(m.Pix) != 0 || code != e {
				t.Errorf("Map(%v, %v): %v %v", a, b, m, code)
			}
			for _, by := range []int{math.MinInt, -1, 0, 255, math.MaxInt} {
				if diff.Within(a, b, by) {
					t.Errorf("Within(%v, %v, %d)", a, b, by)
				}
			}
		}
	}
}

func TestP13_2_Of(t *testing.T) {
	each(func(a, b api.Image) {
		if d, e := diff.Of(a, b); e != api.OK || d != want(a, b) {
			t.Fatalf("Of(%v, %v): %v %v, not %v", a, b, d, e, want(a, b))
		}
	})
	one := func(v byte) api.Image { return api.Image{W: 1, H: 1, C: 1, Pix: []byte{v}} }
	if d, e := diff.Of(one(5), one(9)); d != (diff.Diff{Count: 1, Most: 4, Sum: 4, Squares: 16}) || e != api.OK {
		t.Errorf("the example: %v %v", d, e)
	}
	for a := range 256 {
		for b := range 256 {
			by := away(byte(a), byte(b))
			d, _ := diff.Of(one(byte(a)), one(byte(b)))
			if d.Most != by || d.Sum != uint64(by) || d.Squares != uint64(by*by) || (d.Count == 1) != (a != b) {
				t.Fatalf("%d and %d: %v", a, b, d)
			}
		}
	}
}

func TestP13_2_FirstPlace(t *testing.T) {
	a, b := some(4, 3, 3, 1), some(4, 3, 3, 1)
	for at := len(b.Pix) - 1; at >= 0; at-- {
		b.Pix[at]++
		d, _ := diff.Of(a, b)
		if d.K != at%3 || d.X != at/3%4 || d.Y != at/12 || d.Count != len(b.Pix)-at {
			t.Fatalf("from byte %d on: %v", at, d)
		}
	}
}

func TestP13_2_LargeOnes(t *testing.T) {
	black, _ := img.New(2048, 2048, 4)
	white, _ := img.Fill(2048, 2048, []byte{255, 255, 255, 255})
	n := 1 << 24
	d, e := diff.Of(black, white)
	if d != (diff.Diff{Count: n, Most: 255, Sum: uint64(255 * n), Squares: uint64(65025 * n)}) || e != api.OK {
		t.Errorf("%v %v", d, e)
	}
	if p := diff.Peak(d, n); p != 1 {
		t.Errorf("Peak: %d", p)
	}
}

func TestP13_2_Map(t *testing.T) {
	each(func(a, b api.Image) {
		m, e := diff.Map(a, b)
		if e != api.OK || m.W != a.W || m.H != a.H || m.C != a.C || len(m.Pix) != len(a.Pix) {
			t.Fatalf("Map(%v, %v): %v %v", a, b, m, e)
		}
		for i, v := range m.Pix {
			if int(v) != away(a.Pix[i], b.Pix[i]) {
				t.Fatalf("Map(%v, %v): %v", a, b, m)
			}
		}
		kept := slices.Clone(a.Pix)
		same, _ := diff.Map(a, a)
		for i := range m.Pix {
			m.Pix[i], same.Pix[i] = 99, 98
		}
		if !slices.Equal(a.Pix, kept) {
			t.Fatal("the image shares memory with its Map")
		}
	})
}

func TestP13_2_Within(t *testing.T) {
	each(func(a, b api.Image) {
		most := want(a, b).Most
		for _, by := range []int{math.MinInt, -1, 0, 1, most - 1, most, most + 1, 254, 255, 256, math.MaxInt} {
			if is := diff.Within(a, b, by); is != (most <= by) {
				t.Fatalf("Within(%v, %v, %d): %v", a, b, by, is)
			}
		}
	})
}

func TestP13_3_Peak(t *testing.T) {
	numbers := []int{math.MinInt, -1, 0, 1, 2, 3, 255, 65025, 1 << 24, 1<<40 - 1, 1 << 40, 1<<40 + 1, 1 << 50, math.MaxInt}
	squares := []uint64{0, 1, 2, 3, 7, 254, 65024, 65025, 65026, 1 << 24, 65025 << 24, 1 << 40, 65025<<40 - 1, 65025 << 40, 65025<<40 + 1, 1 << 63, math.MaxUint64}
	for _, n := range numbers {
		for _, s := range squares {
			want := new(big.Int)
			if n >= 1 && s > 0 {
				want.Mul(big.NewInt(65025), big.NewInt(int64(min(n, 1<<40))))
				want.Div(want, new(big.Int).SetUint64(s))
			}
			for _, d := range []diff.Diff{{Squares: s}, {Count: 5, Most: 1000, Sum: math.MaxUint64, Squares: s, X: -1, Y: 7, K: 9}} {
				if p := diff.Peak(d, n); p != want.Int64() || !want.IsInt64() {
					t.Errorf("Peak(%v, %d): %d, not %v", d, n, p, want)
				}
			}
		}
	}
	if p := diff.Peak(diff.Diff{Squares: 16}, 1); p != 4064 {
		t.Errorf("Peak of the example: %d", p)
	}
}

func TestP13_4_Laws(t *testing.T) {
	for _, s := range shapes {
		for _, c := range []int{1, 3, 4} {
			for i := range 5 {
				for k := range 5 {
					for j := range 5 {
						laws(t, some(s[0], s[1], c, i), some(s[0], s[1], c, k), some(s[0], s[1], c, j))
					}
				}
			}
		}
	}
}

// laws checks how far three images are from each other.
func laws(t *testing.T, a, b, third api.Image) {
	t.Helper()
	if d, e := diff.Of(a, a); d != (diff.Diff{}) || e != api.OK || !diff.Within(a, a, 0) {
		t.Fatalf("%v from itself: %v %v", a, d, e)
	}
	there, _ := diff.Of(a, b)
	back, _ := diff.Of(b, a)
	if there != back {
		t.Fatalf("%v and %v: %v, back %v", a, b, there, back)
	}
	one, _ := diff.Of(a, third)
	two, _ := diff.Of(third, b)
	if there.Sum > one.Sum+two.Sum || there.Most > one.Most+two.Most || there.Count > one.Count+two.Count {
		t.Fatalf("%v and %v over %v: %v, %v, %v", a, b, third, there, one, two)
	}
	// Of squares it holds for their roots: without them, what is more than both is at most twice the root of their product.
	if more := there.Squares - one.Squares - two.Squares; there.Squares > one.Squares+two.Squares && more*more > 4*one.Squares*two.Squares {
		t.Fatalf("%v and %v over %v: %v, %v, %v", a, b, third, there, one, two)
	}
}

// every is what all calls tell of two images and a number.
func every(a, b api.Image, n int) string {
	d, e1 := diff.Of(a, b)
	m, e2 := diff.Map(a, b)
	return fmt.Sprint(diff.Check(a, b), d, e1, m, e2, diff.Within(a, b, n), diff.Peak(d, n))
}

// P1 and P2: all end at all edges, wrong images too, and tell the same again, whatever was called between.
func TestP1_P2_TheSameAgain(t *testing.T) {
	var l []api.Image
	for _, w := range wrong() {
		l = append(l, w.m)
	}
	for i := range 10 {
		l = append(l, some(1+i%3, 1+i%2, []int{1, 3, 4}[i/5%3], i), some(2, 2, 3, i))
	}
	numbers := []int{0, 1, 5, 255, -1, math.MinInt, math.MaxInt}
	told := func(i int) string { return every(l[i%len(l)], l[i/len(l)], numbers[i%len(numbers)]) }
	var first []string
	for i := range len(l) * len(l) {
		first = append(first, told(i))
	}
	for i := len(first) - 1; i >= 0; i-- {
		if again := told(i); again != first[i] {
			t.Fatalf("%d: %s, then %s", i, first[i], again)
		}
	}
}
