package xform

import (
	"anamorph/affine"
	"anamorph/api"
	"anamorph/homog"
	"anamorph/lens"
	"anamorph/mesh"
	"anamorph/shear"
	"anamorph/turn"
)

// asked tells where a place comes from.
type asked func(px, py, d int64) (int64, int64, api.Errno)

// numbers are a transform's, for an image of a size.
type numbers struct {
	c    []int64
	w, h int
}

// makers is how each kind is made.
func makers() [7]func(numbers) (asked, api.Errno) {
	return [...]func(numbers) (asked, api.Errno){
		api.Affine: numbers.affine,
		api.Homog:  numbers.homog,
		api.Lens:   numbers.lens,
		api.Mesh:   numbers.mesh,
		api.Shear:  numbers.shear,
		api.Turn:   numbers.turn,
	}
}

func (n numbers) affine() (asked, api.Errno) {
	m, e := affine.New(n.c)
	return m.At, e
}

func (n numbers) homog() (asked, api.Errno) {
	m, e := homog.New(n.c, n.w, n.h)
	return m.At, e
}

func (n numbers) lens() (asked, api.Errno) {
	m, e := lens.New(n.c, n.w, n.h)
	return m.At, e
}

func (n numbers) mesh() (asked, api.Errno) {
	m, e := mesh.New(n.c, n.w, n.h)
	return m.At, e
}

func (n numbers) shear() (asked, api.Errno) {
	m, e := shear.New(n.c)
	return m.At, e
}

func (n numbers) turn() (asked, api.Errno) {
	m, e := turn.New(n.c)
	return m.At, e
}
