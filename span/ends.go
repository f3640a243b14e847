package span

import (
	"sort"

	"anamorph/affine"
	"anamorph/api"
)

// begin is where a pixel of the first image begins: half a pixel ahead of its middle.
func begin(pixel int) int64 { return int64(pixel)*api.One - api.One/2 }

// has tells whether a place lies in one of so many pixels, one way.
func has(pixels int, u int64) bool { return begin(0) <= u && u < begin(pixels) }

// row is a row of the second image.
type row struct {
	m *affine.Map
	y int
}

// u is the column where a pixel comes from.
func (r row) u(x int) int64 {
	u, _, _ := r.m.At(int64(x), int64(r.y), 1)
	return u
}

// v is the row where a pixel comes from.
func (r row) v(x int) int64 {
	_, v, _ := r.m.At(int64(x), int64(r.y), 1)
	return v
}

// span is the pixels that come from an image, of so many.
func (r row) span(w, h, to int) Span {
	left, right := ends(r.u, w, to)
	first, last := ends(r.v, h, to)
	s := Span{r.y, max(left, first), min(right, last)}
	if s.X0 >= s.X1 {
		return Span{Y: r.y}
	}
	return s
}

// ends are the first of so many places of a row that lies in one of some pixels, and the first behind it that doesn't. Along a row places rise all the way, or fall.
func ends(at func(x int) int64, pixels, to int) (int, int) {
	near, far := end{at, begin(0)}, end{at, begin(pixels)}
	if at(0) <= at(to-1) {
		return sort.Search(to, near.reached), sort.Search(to, far.reached)
	}
	return sort.Search(to, far.left), sort.Search(to, near.left)
}

// end is where an image begins, or ends, as places along a row come to it.
type end struct {
	at func(x int) int64
	u  int64
}

// reached tells whether the place has come so far.
func (e end) reached(x int) bool { return e.at(x) >= e.u }

// left tells whether the place has come back from there.
func (e end) left(x int) bool { return e.at(x) < e.u }
