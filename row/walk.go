package row

import (
	"anamorph/api"
	"anamorph/dda"
	"anamorph/hdda"
	"anamorph/xform"
)

// walk is how a row is gone along: what comes next, and what is left out.
type walk struct {
	next func() (int64, int64, bool)
	skip func(n int64) bool
}

// along is how a row of a transform is gone along, from column 0 on; c is its numbers, which are right.
func along(m *xform.Map, c []int64, y int64) walk {
	switch m.Kind() {
	case api.Affine:
		w, _ := dda.New(c, 0, y)
		return walk{w.Next, w.Skip}
	case api.Homog:
		w, h := m.Size()
		k, _ := hdda.New(c, w, h, 0, y)
		return walk{straight{k}.next, k.Skip}
	}
	p := &pixels{m: m, y: y}
	return walk{p.next, p.skip}
}

// straight goes along a row by a map of straight lines.
type straight struct {
	walk *hdda.Walk
}

// next is where the next pixel comes from; within an image each comes from somewhere.
func (s straight) next() (int64, int64, bool) {
	u, v, e := s.walk.Next()
	return u, v, e == api.OK
}

// pixels goes along a row pixel by pixel.
type pixels struct {
	m    *xform.Map
	x, y int64
}

// next is where the next pixel comes from; within an image each comes from somewhere.
func (p *pixels) next() (int64, int64, bool) {
	u, v, e := p.m.At(p.x, p.y, 1)
	p.x++
	return u, v, e == api.OK
}

// skip goes on by some columns.
func (p *pixels) skip(n int64) bool {
	p.x += n
	return true
}
