package mesh_test

import (
	"fmt"
	"math"
	"math/big"
	"slices"
	"testing"

	"anamorph/api"
	"anamorph/mesh"
)

const (
	move = 1 << 31
	one  = 65536
	end  = 1 << 20
)

// net is a mesh, for an image of a size.
type net struct {
	c    []int64
	w, h int
}

// knots are the numbers of a mesh whose knots come from wherever.
func knots(gx, gy, nx, ny int, seed uint64, most int64) []int64 {
	c := []int64{int64(gx), int64(gy), int64(nx), int64(ny)}
	x := seed
	for range 2 * (nx + 1) * (ny + 1) {
		x = x*6364136223846793005 + 1442695040888963407
		c = append(c, int64(x>>31)%(2*most+1)-most)
	}
	return c
}

// nets are right ones: plain ones, some without any pattern, and such as lie at the ends.
func nets() []net {
	ends := []int64{3, 2, 1, 1, -move, move, move, -move, move, move, -move, -move}
	return []net{
		{mesh.Plain(4, 4, 2, 2), 8, 8}, {mesh.Plain(1, 1, 1, 1), 1, 1}, {mesh.Plain(7, 3, 3, 5), 20, 14}, {mesh.Plain(1024, 1024, 32, 32), 32768, 32768}, {mesh.Plain(512, 512, 64, 64), 32768, 32768},
		{ends, 3, 2}, {[]int64{1024, 1024, 1, 1, move, move, -move, -move, -move, move, move, -move}, 1024, 1000}, {[]int64{2, 3, 1, 1, 0, 0, 1, 10, 2, 20, 3, 30}, 2, 3},
		{knots(5, 9, 4, 2, 1, 9*one), 19, 17}, {knots(1, 1, 6, 6, 2, move), 6, 6}, {knots(16, 2, 1, 8, 3, 100), 15, 16}, {knots(2, 16, 8, 1, 4, move), 16, 15},
		{knots(1024, 1, 64, 64, 5, move), 32768, 64}, {knots(1, 1024, 64, 64, 6, move), 64, 32768}, {knots(1024, 1024, 64, 64, 7, move), 32768, 32768}, {knots(3, 5, 7, 3, 8, 1), 21, 15}, {knots(13, 7, 2, 2, 9, 7), 1, 1},
	}
}

// place is px divided by d, py divided by d.
type place struct{ px, py, d int64 }

// places are right ones: at a mesh's knots, on the lines between its cells, beside them, within cells, and outside.
func places(c []int64) []place {
	l := []place{{end, end, 1}, {-end, -end, 1}, {end, -end, 16}, {-end, end, 16}, {0, -end, 7}, {end, 5, 3}}
	gx, gy, nx, ny := c[0], c[1], c[2], c[3]
	for n := range int64(60) {
		d := []int64{1, 2, 3, 7, 16}[n%5]
		i, k := n*3%(nx+2), n*7%(ny+2)
		for _, off := range [][2]int64{{0, 0}, {1, 0}, {0, 1}, {-1, 0}, {0, -1}, {d / 2, -d / 3}, {gx * d / 3, gy * d / 5}, {-n, n}, {gx * d / 2, 0}} {
			p := place{i*gx*d + off[0], k*gy*d + off[1], d}
			if p.px <= end && p.py <= end {
				l = append(l, p)
			}
		}
	}
	return l
}

// wrong are places that aren't right.
func wrong() []place {
	l := []place{{0, 0, 0}, {0, 0, -1}, {0, 0, 17}, {0, 0, -16}, {1, 1, math.MinInt64}, {1, 1, math.MaxInt64}}
	for _, p := range []int64{end + 1, -end - 1, 1 << 32, math.MinInt64, math.MaxInt64} {
		l = append(l, place{p, 0, 1}, place{0, p, 1}, place{p, p, 16}, place{p, -p, 0})
	}
	return l
}

// cell is the one of n, each g wide, in which p divided by d is, and how far it is from its first knots, in parts of its width.
func cell(p, d, g, n int64) (int64, *big.Rat) {
	p = max(0, min(p, g*n*d))
	i := int64(0)
	for i+1 < n && (i+1)*g*d <= p {
		i++
	}
	return i, big.NewRat(p-i*g*d, g*d)
}

// want is where a place comes from, as the document tells it.
func want(c []int64, p place) (int64, int64) {
	i, s := cell(p.px, p.d, c[0], c[2])
	k, t := cell(p.py, p.d, c[1], c[3])
	whole := big.NewRat(1, 1)
	far := func(x *big.Rat) *big.Rat { return new(big.Rat).Sub(whole, x) }
	var told [2]int64
	for j := range told {
		sum := new(big.Rat)
		for _, corner := range []struct {
			i, k int64
			a, b *big.Rat
		}{{i, k, far(s), far(t)}, {i + 1, k, s, far(t)}, {i, k + 1, far(s), t}, {i + 1, k + 1, s, t}} {
			part := new(big.Rat).SetInt64(c[4+2*(corner.k*(c[2]+1)+corner.i)+int64(j)])
			sum.Add(sum, part.Mul(part, corner.a).Mul(part, corner.b))
		}
		told[j] = new(big.Int).Div(sum.Num(), sum.Denom()).Int64() // of a divisor above 0 Div rounds down
	}
	return told[0], told[1]
}

// made is a right mesh.
func made(t *testing.T, n net) *mesh.Map {
	t.Helper()
	m, e := mesh.New(n.c, n.w, n.h)
	if m == nil || e != api.OK {
		t.Fatalf("New(%v.., %d, %d): %v", n.c[:4], n.w, n.h, e)
	}
	return m
}

// checked checks the code of a mesh.
func checked(t *testing.T, n net, want api.Errno) {
	t.Helper()
	if e := mesh.Check(n.c, n.w, n.h); e != want {
		t.Errorf("Check(%v.. (%d), %d, %d): %v, not %v", n.c[:min(len(n.c), 4)], len(n.c), n.w, n.h, e, want)
	}
	if m, e := mesh.New(n.c, n.w, n.h); e != want || (m == nil) != (want != api.OK) {
		t.Errorf("New(%v.. (%d), %d, %d): %v, not %v", n.c[:min(len(n.c), 4)], len(n.c), n.w, n.h, e, want)
	}
}

func TestP21_2_Size(t *testing.T) {
	for n := range 4 {
		checked(t, net{slices.Repeat([]int64{math.MinInt64}, n), 0, 0}, api.ErrSize)
		checked(t, net{slices.Repeat([]int64{1}, n), 1, 1}, api.ErrSize)
	}
	checked(t, net{nil, 1, 1}, api.ErrSize)
	for _, s := range [][2]int{{1, 1}, {2, 3}, {3, 2}, {64, 1}, {1, 64}, {64, 64}} {
		c := knots(2, 2, s[0], s[1], 3, move+9)
		for _, n := range []int{4, 5, len(c) - 2, len(c) - 1} {
			checked(t, net{c[:n], 1, 1}, api.ErrSize)
			checked(t, net{c[:n], 0, 40000}, api.ErrSize)
		}
		checked(t, net{append(slices.Clone(c), 1), 1, 1}, api.ErrSize)
		checked(t, net{append(slices.Clone(c), 1, math.MaxInt64), 1, 1}, api.ErrSize)
	}
	checked(t, net{knots(2, 2, 2, 3, 3, 9), 1, 1}, api.OK)
	checked(t, net{append([]int64{2, 2, 3, 2}, knots(2, 2, 2, 2, 3, 9)[4:]...), 1, 1}, api.ErrSize) // as many as of 2, 2
}

func TestP21_2_Range(t *testing.T) {
	for i, most := range []int64{1024, 1024, 64, 64} {
		for _, x := range []int64{1, 2, most - 1, most} {
			s := []int{1, 1, 1, 1}
			s[i] = int(x)
			checked(t, net{knots(s[0], s[1], s[2], s[3], 1, 9), 1, 1}, api.OK)
		}
		for _, x := range []int64{0, -1, most + 1, -most, 1 << 32, 1 << 62, math.MinInt64, math.MaxInt64} {
			for _, n := range []int{4, 5, 12, 99} { // that there aren't as many as there must be is told later
				c := slices.Repeat([]int64{1}, n)
				c[i] = x
				checked(t, net{c, 1, 1}, api.ErrRange)
				checked(t, net{c, 0, 0}, api.ErrRange)
			}
		}
	}
	for _, at := range []int{4, 5, 8, 14, 15} {
		for _, x := range []int64{move, -move, move - 1} {
			c := knots(3, 3, 2, 1, 1, 9)
			c[at] = x
			checked(t, net{c, 1, 1}, api.OK)
		}
		for _, x := range []int64{move + 1, -move - 1, 1 << 40, math.MinInt64, math.MaxInt64} {
			c := knots(3, 3, 2, 1, 1, 9)
			c[at] = x
			for _, s := range [][2]int{{1, 1}, {0, 1}, {1, 32769}, {7, 1}} {
				checked(t, net{c, s[0], s[1]}, api.ErrRange)
			}
		}
	}
}

func TestP21_2_LimitAndMesh(t *testing.T) {
	for _, n := range []int{0, -1, 32769, 1 << 32, math.MinInt, math.MaxInt} {
		for _, c := range [][]int64{knots(1, 1, 1, 1, 1, 9), knots(1024, 1024, 64, 64, 1, 9)} {
			checked(t, net{c, n, 1}, api.ErrLimit)
			checked(t, net{c, 1, n}, api.ErrLimit)
			checked(t, net{c, n, 32768}, api.ErrLimit)
			checked(t, net{c, 32768, n}, api.ErrLimit)
		}
	}
	for _, s := range [][4]int{{1, 1, 1, 1}, {5, 7, 3, 2}, {1024, 1, 3, 64}, {1, 1024, 64, 3}, {512, 511, 64, 64}} {
		c, w, h := knots(s[0], s[1], s[2], s[3], 1, 9), s[0]*s[2], s[1]*s[3]
		for _, z := range [][2]int{{w, h}, {1, h}, {w, 1}, {1, 1}} {
			checked(t, net{c, z[0], z[1]}, api.OK)
		}
		for _, z := range [][2]int{{w + 1, 1}, {1, h + 1}, {w + 1, h + 1}, {w, 32768}, {32768, h}} {
			if z[0] > w || z[1] > h {
				want := api.ErrMesh
				if z[0] > 32768 || z[1] > 32768 {
					want = api.ErrLimit
				}
				checked(t, net{c, z[0], z[1]}, want)
			}
		}
	}
	checked(t, net{knots(1024, 1024, 64, 64, 1, 9), 32768, 32768}, api.OK)
}

func TestP21_3_ByHand(t *testing.T) {
	// One cell, 2 wide and 4 high: columns 0, 8 above 100, 1000; rows 0, 1 above -1, -8.
	m := made(t, net{[]int64{2, 4, 1, 1, 0, 0, 8, 1, 100, -1, 1000, -8}, 2, 4})
	for _, c := range []struct {
		p    place
		u, v int64
	}{
		{place{0, 0, 1}, 0, 0}, {place{2, 0, 1}, 8, 1}, {place{0, 4, 1}, 100, -1}, {place{2, 4, 1}, 1000, -8},
		{place{1, 0, 1}, 4, 0}, {place{0, 2, 1}, 50, -1}, {place{1, 2, 1}, 277, -2}, {place{1, 4, 1}, 550, -5}, {place{1, 1, 16}, 2, 0}, {place{1, 3, 1}, 413, -4}, // rows 1/2, -4.5, 24/2048, -13/4
		{place{-1, 0, 1}, 0, 0}, {place{-9, -9, 16}, 0, 0}, {place{3, -1, 1}, 8, 1}, {place{end, end, 1}, 1000, -8}, {place{-end, end, 1}, 100, -1}, {place{1, end, 1}, 550, -5}, {place{1, -7, 1}, 4, 0},
	} {
		if u, v, e := m.At(c.p.px, c.p.py, c.p.d); u != c.u || v != c.v || e != api.OK {
			t.Errorf("at %v: %d %d %v, not %d %d", c.p, u, v, e, c.u, c.v)
		}
	}
	m = made(t, net{mesh.Plain(4, 4, 2, 2), 8, 8})
	if u, v, e := m.At(3, 5, 1); u != 3*one || v != 5*one || e != api.OK {
		t.Error(u, v, e)
	}
}

func TestP21_3_At(t *testing.T) {
	for _, n := range nets() {
		m := made(t, n)
		for _, p := range places(n.c) {
			u, v, e := m.At(p.px, p.py, p.d)
			if x, y := want(n.c, p); u != x || v != y || e != api.OK {
				t.Fatalf("%v.. at %v: %d %d %v, not %d %d", n.c[:4], p, u, v, e, x, y)
			}
		}
	}
}

func TestP21_3_WrongOnes(t *testing.T) {
	var none *mesh.Map
	m := made(t, nets()[0])
	for _, p := range wrong() {
		if u, v, e := m.At(p.px, p.py, p.d); u != 0 || v != 0 || e != api.ErrRange {
			t.Errorf("at %v: %d %d %v", p, u, v, e)
		}
	}
	for _, p := range append(wrong(), places(nets()[0].c)...) {
		if u, v, e := none.At(p.px, p.py, p.d); u != 0 || v != 0 || e != api.ErrArg {
			t.Errorf("none at %v: %d %d %v", p, u, v, e)
		}
	}
}

func TestP21_1_P21_4_Knots(t *testing.T) {
	var none *mesh.Map
	for _, n := range nets() {
		m := made(t, n)
		nx, ny := int(n.c[2]), int(n.c[3])
		if a, b := m.Cells(); a != nx || b != ny {
			t.Errorf("Cells of %v..: %d %d", n.c[:4], a, b)
		}
		at := 4
		for k := range ny + 1 {
			for i := range nx + 1 {
				u, v, is := m.Knot(i, k)
				if u != n.c[at] || v != n.c[at+1] || !is {
					t.Fatalf("Knot %d, %d of %v..: %d %d %v", i, k, n.c[:4], u, v, is)
				}
				x, y, e := m.At(int64(i)*n.c[0], int64(k)*n.c[1], 1)
				if x != u || y != v || e != api.OK {
					t.Fatalf("at knot %d, %d of %v..: %d %d %v", i, k, n.c[:4], x, y, e)
				}
				at += 2
			}
		}
		for _, p := range [][2]int{{-1, 0}, {0, -1}, {nx + 1, 0}, {0, ny + 1}, {nx + 1, ny + 1}, {-1, ny}, {nx, -1}, {math.MinInt, 0}, {0, math.MaxInt}, {math.MaxInt, math.MinInt}, {1 << 32, 1 << 32}} {
			if u, v, is := m.Knot(p[0], p[1]); u != 0 || v != 0 || is {
				t.Errorf("Knot %v of %v..: %d %d %v", p, n.c[:4], u, v, is)
			}
		}
	}
	if a, b := none.Cells(); a != 0 || b != 0 {
		t.Error("Cells of none:", a, b)
	}
	if u, v, is := none.Knot(0, 0); u != 0 || v != 0 || is {
		t.Error("Knot of none:", u, v, is)
	}
}

// hull is the least and the greatest knot of all cells in which a place is that is asked for.
func hull(c []int64, x0, y0, x1, y1 int) api.Rect {
	cells := func(from, to int, g, n int64) (int64, int64) {
		first, _ := cell(int64(2*from-1), 2, g, n)
		last, _ := cell(int64(2*to-1), 2, g, n)
		for k := range n { // the lines on which knots stand are places, too
			if x := k * g; 2*x >= int64(2*from-1) && 2*x <= int64(2*to-1) {
				first, last = min(first, k), max(last, k)
			}
		}
		return first, last
	}
	i0, i1 := cells(x0, x1, c[0], c[2])
	k0, k1 := cells(y0, y1, c[1], c[3])
	r := api.Rect{X0: math.MaxInt, Y0: math.MaxInt, X1: math.MinInt, Y1: math.MinInt}
	for k := k0; k <= k1+1; k++ {
		for i := i0; i <= i1+1; i++ {
			at := 4 + 2*(k*(c[2]+1)+i)
			u, v := int(c[at]), int(c[at+1])
			r = api.Rect{X0: min(r.X0, u), Y0: min(r.Y0, v), X1: max(r.X1, u), Y1: max(r.Y1, v)}
		}
	}
	return r
}

// parts are columns, or rows, from one on, below another one: around the lines between cells, before, behind and beyond a mesh.
func parts(g, n int64) [][2]int {
	var l [][2]int
	ends := []int{0, 1, int(g) - 1, int(g), int(g) + 1, int(g) * 2, int(g)*2 + 1, int(g*n) - 1, int(g * n), int(g*n) + 1, 32767, 32768}
	for _, a := range ends {
		for _, b := range ends {
			if 0 <= a && a < b && b <= 32768 && (b-a < 4000 || b == 32768) {
				l = append(l, [2]int{a, b})
			}
		}
	}
	return l
}

func TestP21_5_Hull(t *testing.T) {
	for i, n := range nets() {
		m := made(t, n)
		columns, rows := parts(n.c[0], n.c[2]), parts(n.c[1], n.c[3])
		for j, x := range columns {
			y := rows[(j*7+i)%len(rows)]
			r, is := m.Hull(x[0], y[0], x[1], y[1])
			if want := hull(n.c, x[0], y[0], x[1], y[1]); r != want || !is {
				t.Fatalf("Hull of %v.., %v, %v: %v %v, not %v", n.c[:4], x, y, r, is, want)
			}
		}
		for j, y := range rows {
			x := columns[(j*5+i)%len(columns)]
			r, is := m.Hull(x[0], y[0], x[1], y[1])
			if want := hull(n.c, x[0], y[0], x[1], y[1]); r != want || !is {
				t.Fatalf("Hull of %v.., %v, %v: %v %v, not %v", n.c[:4], x, y, r, is, want)
			}
		}
	}
}

// A part that is as wide as a cell, and stands on it, reaches into the cell ahead, but not into the one behind.
func TestP21_5_ByHand(t *testing.T) {
	m := made(t, net{[]int64{2, 2, 3, 1, 0, 9, 10, 9, 20, 9, 30, 9, 0, 5, 10, 5, 20, 5, 30, 5}, 6, 2})
	for _, c := range []struct{ x0, x1, u0, u1 int }{
		{0, 1, 0, 10}, {0, 2, 0, 10}, {0, 3, 0, 20}, {1, 2, 0, 10}, {2, 3, 0, 20}, {2, 4, 0, 20}, {3, 4, 10, 20}, {3, 5, 10, 30}, {4, 6, 10, 30}, {5, 6, 20, 30}, {6, 7, 20, 30}, {9, 32768, 20, 30}, {0, 32768, 0, 30},
	} {
		if r, is := m.Hull(c.x0, 0, c.x1, 2); r != (api.Rect{X0: c.u0, Y0: 5, X1: c.u1, Y1: 9}) || !is {
			t.Errorf("%d to %d: %v %v", c.x0, c.x1, r, is)
		}
	}
}

func TestP21_5_Within(t *testing.T) {
	for _, n := range nets() {
		m := made(t, n)
		for _, p := range [][4]int{{0, 0, 1, 1}, {0, 0, n.w, n.h}, {n.w - 1, n.h - 1, n.w, n.h}, {n.w / 2, n.h / 2, n.w/2 + 1, n.h/2 + 1}, {n.w / 3, 0, n.w, n.h/3 + 1}} {
			r, is := m.Hull(p[0], p[1], p[2], p[3])
			if !is {
				t.Fatal(n.c[:4], p)
			}
			for x := 2*p[0] - 1; x <= 2*p[2]-1; x += max(1, (p[2]-p[0])/9) {
				for y := 2*p[1] - 1; y <= 2*p[3]-1; y += max(1, (p[3]-p[1])/9) {
					u, v, _ := m.At(int64(x), int64(y), 2)
					if int(u) < r.X0 || int(u) > r.X1 || int(v) < r.Y0 || int(v) > r.Y1 {
						t.Fatalf("%v.., %v: %d %d isn't in %v", n.c[:4], p, u, v, r)
					}
				}
			}
		}
	}
}

func TestP21_5_WrongOnes(t *testing.T) {
	var none *mesh.Map
	m := made(t, nets()[0])
	if r, is := none.Hull(0, 0, 1, 1); r != (api.Rect{}) || is {
		t.Error("Hull of none:", r, is)
	}
	for _, p := range [][4]int{
		{0, 0, 0, 1}, {0, 0, 1, 0}, {1, 0, 0, 1}, {0, 1, 1, 0}, {3, 3, 3, 4}, {3, 3, 4, 3}, {32768, 0, 32768, 1}, {0, 32768, 1, 32768}, {-1, 0, 1, 1}, {0, -1, 1, 1}, {0, 0, 32769, 1}, {0, 0, 1, 32769}, {-5, 0, -1, 1}, {0, -5, 1, -1},
		{32769, 0, 32770, 1}, {0, 32769, 1, 32770}, {math.MinInt, 0, 1, 1}, {0, math.MinInt, 1, 1}, {0, 0, math.MaxInt, 1}, {0, 0, 1, math.MaxInt}, {math.MinInt, math.MinInt, math.MaxInt, math.MaxInt}, {0, 0, 1 << 62, 1}, {0, 0, 0, 0},
	} {
		if r, is := m.Hull(p[0], p[1], p[2], p[3]); r != (api.Rect{}) || is {
			t.Errorf("Hull(%v): %v %v", p, r, is)
		}
	}
	if _, is := m.Hull(0, 0, 32768, 32768); !is {
		t.Error("Hull of all")
	}
	if _, is := m.Hull(32767, 32767, 32768, 32768); !is {
		t.Error("Hull of the last")
	}
}

func TestP21_6_Plain(t *testing.T) {
	if c := mesh.Plain(5, 3, 2, 1); fmt.Sprint(c) != fmt.Sprint([]int64{5, 3, 2, 1, 0, 0, 5 * one, 0, 10 * one, 0, 0, 3 * one, 5 * one, 3 * one, 10 * one, 3 * one}) {
		t.Error(c)
	}
	for _, s := range [][4]int{{1, 1, 1, 1}, {4, 4, 2, 2}, {1024, 1, 1, 64}, {1, 1024, 64, 1}, {7, 3, 3, 5}, {512, 512, 64, 64}, {1024, 1024, 32, 32}} {
		c, w, h := mesh.Plain(s[0], s[1], s[2], s[3]), s[0]*s[2], s[1]*s[3]
		m := made(t, net{c, w, h})
		for _, p := range places(c) {
			if p.px < 0 || p.py < 0 || p.px > int64(w)*p.d || p.py > int64(h)*p.d {
				continue
			}
			if u, v, e := m.At(p.px, p.py, p.d); u != one*p.px/p.d || v != one*p.py/p.d || e != api.OK {
				t.Fatalf("Plain(%v) at %v: %d %d %v", s, p, u, v, e)
			}
		}
		clear(c)
		if again := mesh.Plain(s[0], s[1], s[2], s[3]); again[0] != int64(s[0]) {
			t.Errorf("Plain(%v), again: %v", s, again[:4])
		}
	}
	for i, most := range []int{1024, 1024, 64, 64} {
		for _, x := range []int{0, -1, most + 1, math.MinInt, math.MaxInt, 1 << 32} {
			s := [4]int{1, 1, 1, 1}
			s[i] = x
			if c := mesh.Plain(s[0], s[1], s[2], s[3]); len(c) != 0 {
				t.Errorf("Plain(%v): %d numbers", s, len(c))
			}
		}
	}
}

// P2: a mesh is what it was made of, whatever is written there later, and changes nothing of it.
func TestP2_Memory(t *testing.T) {
	for _, n := range nets() {
		kept := slices.Clone(n.c)
		m := made(t, n)
		told := func() string {
			u, v, e := m.At(1, 3, 2)
			a, b := m.Cells()
			x, y, is := m.Knot(1, 1)
			r, has := m.Hull(0, 0, 3, 3)
			return fmt.Sprint(u, v, e, a, b, x, y, is, r, has)
		}
		before := told()
		if mesh.Check(n.c, n.w, n.h); !slices.Equal(n.c, kept) {
			t.Fatalf("%v.. is now %v", kept[:4], n.c[:4])
		}
		clear(n.c)
		if after := told(); after != before {
			t.Fatalf("%v..: %s, then %s", kept[:4], before, after)
		}
	}
}

// every is what all calls tell.
func every(m *mesh.Map, n net, p place) string {
	u, v, e := m.At(p.px, p.py, p.d)
	a, b := m.Cells()
	x, y, is := m.Knot(int(p.px), int(p.py))
	r, has := m.Hull(int(p.px), int(p.py), int(p.d), int(p.py)/2)
	_, code := mesh.New(n.c, n.w, n.h)
	return fmt.Sprint(u, v, e, a, b, x, y, is, r, has, code, mesh.Check(n.c, n.w, n.h), len(mesh.Plain(int(p.px), int(p.d), int(p.py), int(p.d))))
}

// P1 and P2: all end at all edges, wrong ones too, and tell the same again, whatever was called between.
func TestP1_P2_TheSameAgain(t *testing.T) {
	l, all := nets(), append(places(nets()[0].c), wrong()...)
	l = append(l, net{nil, 1, 1}, net{[]int64{1}, 0, 0}, net{make([]int64, 12), 5, 5}, net{l[0].c, math.MinInt, math.MaxInt}, net{slices.Repeat([]int64{math.MaxInt64}, 99), 1, 1})
	var kept []*mesh.Map
	for _, n := range l {
		m, _ := mesh.New(n.c, n.w, n.h)
		kept = append(kept, m)
	}
	told := func(i int) string { return every(kept[i%len(l)], l[i*7%len(l)], all[i*11%len(all)]) }
	var first []string
	for i := range 10000 {
		first = append(first, told(i))
	}
	for i := len(first) - 1; i >= 0; i-- {
		if again := told(i); again != first[i] {
			t.Fatalf("%d: %s, then %s", i, first[i], again)
		}
	}
}
