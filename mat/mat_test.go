package mat_test

import (
	"fmt"
	"math"
	"math/big"
	"testing"

	"anamorph/api"
	"anamorph/mat"
	"anamorph/wide"
)

const end = 1 << 31

// Matrices are of nine numbers.
var (
	_ = [9]int64(mat.M{})
	_ = [9]wide.Int(mat.Wide{})
)

// outside are numbers that are too far from 0.
var outside = []int64{end + 1, -end - 1, 1 << 32, -1 << 32, 1 << 40, math.MaxInt64, math.MinInt64, math.MinInt64 + 1}

// matrices are right ones: plain ones, singular ones, and such as lie at the ends.
func matrices() []mat.M {
	l := []mat.M{
		{}, mat.Unit(), {2, 0, 0, 0, 3, 0, 0, 0, 5}, {1, 2, 3, 4, 5, 6, 7, 8, 9}, {1, 2, 3, 4, 5, 6, 7, 8, 10}, {0, 1, 0, 0, 0, 1, 1, 0, 0},
		{0, 1, 0, 1, 0, 0, 0, 0, 1}, {3, -1, 4, 1, -5, 9, -2, 6, 5}, {65536, 0, 1 << 20, 0, -65536, -1 << 20, 0, 0, 65536},
		{end, end, end, end, end, end, end, end, end}, {-end, -end, -end, -end, -end, -end, -end, -end, -end},
		{end, 0, 0, 0, end, 0, 0, 0, end}, {-end, 0, 0, 0, -end, 0, 0, 0, -end}, {end, -end, 0, end, end, 0, 0, 0, 1},
		{end, end, -end, -end, end, end, end, -end, end}, {-end, end, end, end, -end, end, end, end, -end}, {end, -end, -end, -end, -end, end, -end, end, -end},
		{end, 1, -end, end - 1, -end, 1, 7, end, 1 - end},
	}
	x := uint64(3)
	for n := range 60 { // and some without any pattern, of all sizes
		var m mat.M
		for i := range m {
			x = x*6364136223846793005 + 1442695040888963407
			m[i] = int64(x>>32)>>(n%30) - int64(end>>(n%30))
		}
		l = append(l, m)
	}
	return l
}

// columns are right ones.
var columns = [][3]int64{{0, 0, 0}, {1, 0, 0}, {0, 1, 0}, {0, 0, 1}, {1, 2, 3}, {-7, 5, -11}, {end, end, end}, {-end, -end, -end}, {end, -end, end}, {-end, end - 1, 1 - end}, {123456, -654321, 1}}

// whole is the number of an Int.
func whole(a wide.Int) *big.Int {
	n := new(big.Int).Lsh(big.NewInt(a.Hi), 64)
	return n.Add(n, new(big.Int).SetUint64(a.Lo))
}

// sum is products added up; each is of as many numbers as there are.
func sum(products ...[]int64) *big.Int {
	s := new(big.Int)
	for _, l := range products {
		p := big.NewInt(1)
		for _, x := range l {
			p.Mul(p, big.NewInt(x))
		}
		s.Add(s, p)
	}
	return s
}

// det is the determinant, by Sarrus's rule.
func det(m mat.M) *big.Int {
	plus := sum([]int64{m[0], m[4], m[8]}, []int64{m[1], m[5], m[6]}, []int64{m[2], m[3], m[7]})
	return plus.Sub(plus, sum([]int64{m[2], m[4], m[6]}, []int64{m[0], m[5], m[7]}, []int64{m[1], m[3], m[8]}))
}

// without is what is left of a matrix without a row and a column.
func without(m mat.M, row, column int) []int64 {
	var l []int64
	for i, x := range m {
		if i/3 != row && i%3 != column {
			l = append(l, x)
		}
	}
	return l
}

// adjugate is the number of an adjugate's row i, column k, as the document tells it.
func adjugate(m mat.M, i, k int) *big.Int {
	l := without(m, k, i)
	d := sum([]int64{l[0], l[3]})
	d.Sub(d, sum([]int64{l[1], l[2]}))
	if (i+k)%2 == 1 {
		d.Neg(d)
	}
	return d
}

func TestP5_1_Right(t *testing.T) {
	for _, m := range matrices() {
		if !mat.Right(m) {
			t.Errorf("Right(%v)", m)
		}
		for i := range m {
			for _, x := range outside {
				bad := m
				bad[i] = x
				if mat.Right(bad) {
					t.Errorf("Right(%v)", bad)
				}
			}
			for _, x := range []int64{end, -end} {
				good := m
				good[i] = x
				if !mat.Right(good) {
					t.Errorf("Right(%v)", good)
				}
			}
		}
	}
}

func TestP5_1_WrongOnes(t *testing.T) {
	good := mat.M{1, 2, 3, 4, 5, 6, 7, 8, 10}
	for i := range good {
		for _, x := range outside {
			bad := good
			bad[i] = x
			if d, e := mat.Det(bad); d != (wide.Int{}) || e != api.ErrRange {
				t.Errorf("Det(%v): %v %d", bad, d, e)
			}
			if a, e := mat.Adj(bad); a != (mat.Wide{}) || e != api.ErrRange {
				t.Errorf("Adj(%v): %v %d", bad, a, e)
			}
			for _, c := range [][2]mat.M{{bad, good}, {good, bad}, {bad, bad}, {bad, {}}, {{}, bad}} {
				if p, e := mat.Mul(c[0], c[1]); p != (mat.Wide{}) || e != api.ErrRange {
					t.Errorf("Mul(%v, %v): %v %d", c[0], c[1], p, e)
				}
			}
			if p, e := mat.Put(bad, 1, 2, 3); p != ([3]wide.Int{}) || e != api.ErrRange {
				t.Errorf("Put(%v): %v %d", bad, p, e)
			}
		}
	}
}

func TestP5_1_WrongColumns(t *testing.T) {
	for _, m := range []mat.M{{}, mat.Unit(), {1, 2, 3, 4, 5, 6, 7, 8, 10}} {
		for _, x := range outside {
			for _, c := range [][3]int64{{x, 0, 0}, {0, x, 0}, {0, 0, x}, {x, 1, end}, {end, x, 1}, {1, -end, x}, {x, x, x}} {
				if p, e := mat.Put(m, c[0], c[1], c[2]); p != ([3]wide.Int{}) || e != api.ErrRange {
					t.Errorf("Put(%v, %v): %v %d", m, c, p, e)
				}
			}
		}
	}
}

func TestP5_2_ByHand(t *testing.T) {
	d, e := mat.Det(mat.M{2, 0, 0, 0, 3, 0, 0, 0, 5})
	if d != wide.Of(30) || e != api.OK {
		t.Error(d, e)
	}
	a, e := mat.Adj(mat.M{2, 0, 0, 0, 3, 0, 0, 0, 5})
	if a != (mat.Wide{0: wide.Of(15), 4: wide.Of(10), 8: wide.Of(6)}) || e != api.OK {
		t.Error(a, e)
	}
	a, e = mat.Adj(mat.M{1, 2, 3, 0, 1, 4, 5, 6, 0})
	for i, x := range []int64{-24, 18, 5, 20, -15, -4, -5, 4, 1} {
		if a[i] != wide.Of(x) || e != api.OK {
			t.Error(i, a[i], e)
		}
	}
	p, e := mat.Mul(mat.M{1, 2, 3, 4, 5, 6, 7, 8, 9}, mat.M{9, 8, 7, 6, 5, 4, 3, 2, 1})
	for i, x := range []int64{30, 24, 18, 84, 69, 54, 138, 114, 90} {
		if p[i] != wide.Of(x) || e != api.OK {
			t.Error(i, p[i], e)
		}
	}
	if m := mat.Turn(mat.M{1, 2, 3, 4, 5, 6, 7, 8, 9}); m != (mat.M{1, 4, 7, 2, 5, 8, 3, 6, 9}) {
		t.Error(m)
	}
	if m := mat.Unit(); m != (mat.M{1, 0, 0, 0, 1, 0, 0, 0, 1}) {
		t.Error(m)
	}
	c, e := mat.Put(mat.M{1, 2, 3, 4, 5, 6, 7, 8, 9}, 10, 100, -1000)
	if c != ([3]wide.Int{wide.Of(-2790), wide.Of(-5460), wide.Of(-8130)}) || e != api.OK {
		t.Error(c, e)
	}
	c, e = mat.Put(mat.M{end, end, end, -end, -end, -end, 0, 0, 0}, end, end, end)
	if c != ([3]wide.Int{{Lo: 3 << 62}, {Hi: -1, Lo: 1 << 62}, {}}) || e != api.OK {
		t.Error(c, e)
	}
}

func TestP5_2_DetAndAdj(t *testing.T) {
	for _, m := range matrices() {
		d, e := mat.Det(m)
		if whole(d).Cmp(det(m)) != 0 || e != api.OK {
			t.Errorf("Det(%v): %v %d, not %v", m, whole(d), e, det(m))
		}
		a, e := mat.Adj(m)
		if e != api.OK {
			t.Errorf("Adj(%v): %d", m, e)
		}
		for i := range 3 {
			for k := range 3 {
				if want := adjugate(m, i, k); whole(a[3*i+k]).Cmp(want) != 0 {
					t.Errorf("Adj(%v): row %d, column %d: %v, not %v", m, i, k, whole(a[3*i+k]), want)
				}
			}
		}
	}
}

func TestP5_2_MulAndPut(t *testing.T) {
	all := matrices()
	for _, m := range all {
		for _, n := range all {
			p, e := mat.Mul(m, n)
			for i := range 9 {
				r, c := i/3*3, i%3
				want := sum([]int64{m[r], n[c]}, []int64{m[r+1], n[3+c]}, []int64{m[r+2], n[6+c]})
				if whole(p[i]).Cmp(want) != 0 || e != api.OK {
					t.Fatalf("Mul(%v, %v): at %d %v %d, not %v", m, n, i, whole(p[i]), e, want)
				}
			}
		}
		for _, c := range columns {
			p, e := mat.Put(m, c[0], c[1], c[2])
			for i := range 3 {
				want := sum([]int64{m[3*i], c[0]}, []int64{m[3*i+1], c[1]}, []int64{m[3*i+2], c[2]})
				if whole(p[i]).Cmp(want) != 0 || e != api.OK {
					t.Fatalf("Put(%v, %v): at %d %v %d, not %v", m, c, i, whole(p[i]), e, want)
				}
			}
		}
	}
}

func TestP5_2_TurnAndUnit(t *testing.T) {
	wild := mat.M{math.MinInt64, math.MaxInt64, end + 1, -end - 1, 0, 1, 2, 3, 4} // that one isn't right changes nothing here
	for _, m := range append(matrices(), wild) {
		turned := mat.Turn(m)
		for i := range 9 {
			if turned[i] != m[i%3*3+i/3] {
				t.Fatalf("Turn(%v): %v", m, turned)
			}
		}
	}
	for _, m := range matrices() {
		left, _ := mat.Mul(mat.Unit(), m)
		right, _ := mat.Mul(m, mat.Unit())
		for i := range 9 {
			if left[i] != wide.Of(m[i]) || right[i] != wide.Of(m[i]) {
				t.Fatalf("Unit and %v: %v, %v", m, left, right)
			}
		}
	}
}

func TestP5_3_TurnedRound(t *testing.T) {
	for _, m := range matrices() {
		a, _ := mat.Adj(m)
		d, _ := mat.Det(m)
		for i := range 3 {
			for k := range 3 {
				want := new(big.Int)
				if i == k {
					want = whole(d)
				}
				behind, ahead := new(big.Int), new(big.Int)
				for j := range 3 {
					behind.Add(behind, new(big.Int).Mul(big.NewInt(m[3*i+j]), whole(a[3*j+k])))
					ahead.Add(ahead, new(big.Int).Mul(whole(a[3*i+j]), big.NewInt(m[3*j+k])))
				}
				if behind.Cmp(want) != 0 || ahead.Cmp(want) != 0 {
					t.Fatalf("%v and its Adj: row %d, column %d: %v and %v, not %v", m, i, k, behind, ahead, want)
				}
			}
		}
	}
}

// every is what all calls tell of two matrices and a column.
func every(m, n mat.M, c [3]int64) string {
	d, e1 := mat.Det(m)
	a, e2 := mat.Adj(m)
	p, e3 := mat.Mul(m, n)
	q, e4 := mat.Put(m, c[0], c[1], c[2])
	return fmt.Sprint(mat.Right(m), d, e1, a, e2, p, e3, q, e4, mat.Turn(m), mat.Unit())
}

// P1 and P2: all end at all edges, wrong matrices too, and tell the same again, whatever was called between.
func TestP1_P2_TheSameAgain(t *testing.T) {
	all := matrices()
	for i, x := range outside {
		m := all[i]
		m[i] = x
		all = append(all, m, mat.M{x, x, x, x, x, x, x, x, x})
	}
	var first []string
	for i, m := range all {
		first = append(first, every(m, all[len(all)-1-i], columns[i%len(columns)]))
	}
	for i := len(all) - 1; i >= 0; i-- {
		if again := every(all[i], all[len(all)-1-i], columns[i%len(columns)]); again != first[i] {
			t.Fatalf("%v: %s, then %s", all[i], first[i], again)
		}
	}
}
