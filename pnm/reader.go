package pnm

import (
	"anamorph/api"
	"anamorph/cut"
)

// reader is bytes that are read, and the image that they have told so far.
type reader struct {
	cut *cut.Cut
	m   api.Image
}

// form is what is read, in the form's order.
func (r *reader) form() []func() api.Errno {
	return []func() api.Errno{
		r.channels,
		r.cut.Blank, r.width,
		r.cut.Blank, r.height, r.size,
		r.cut.Blank, r.highest,
		r.cut.One, r.pixels,
	}
}

func (r *reader) channels() api.Errno {
	r.m.C = 1
	e := r.cut.Word(one)
	if e == api.ErrForm {
		r.m.C = 3
		e = r.cut.Word(three)
	}
	return e
}

func (r *reader) width() (e api.Errno) {
	r.m.W, e = r.cut.Number(api.MaxSide)
	return e
}

func (r *reader) height() (e api.Errno) {
	r.m.H, e = r.cut.Number(api.MaxSide)
	return e
}

// size tells what is wrong with how large the image is.
func (r *reader) size() api.Errno {
	switch {
	case r.m.W == 0 || r.m.H == 0:
		return api.ErrSize
	case r.m.W*r.m.H > api.MaxPix:
		return api.ErrLimit
	}
	return api.OK
}

func (r *reader) highest() api.Errno {
	n, e := r.cut.Number(highest)
	if e == api.OK && n != highest {
		return api.ErrForm
	}
	return e
}

func (r *reader) pixels() (e api.Errno) {
	n := r.m.W * r.m.H * r.m.C
	if r.cut.Left() > n { // asked ahead of the bytes: no room is taken for them in vain
		return api.ErrMore
	}
	r.m.Pix, e = r.cut.Take(n)
	return e
}
