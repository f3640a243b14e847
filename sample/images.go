package sample

import (
	"bytes"

	"anamorph/api"
	"anamorph/img"
)

// images is a source that has images; there is one, at least.
type images struct {
	l []api.Image
}

// Of is a source that has images.
func Of(l []api.Image) (Source, api.Errno) {
	if len(l) == 0 {
		return nil, api.ErrNone
	}
	own := make([]api.Image, len(l))
	for k, m := range l {
		if e := img.Check(m); e != api.OK {
			return nil, e
		}
		if m.C != l[0].C {
			return nil, api.ErrArg
		}
		m.Pix = bytes.Clone(m.Pix)
		own[k] = m
	}
	return &images{own}, api.OK
}

// Levels is how many images there are.
func (s *images) Levels() int { return len(s.l) }

// Size is how large an image is.
func (s *images) Size(k int) (int, int) {
	if k < 0 || k >= len(s.l) {
		return 0, 0
	}
	return s.l[k].W, s.l[k].H
}

// Channels is how many channels they have.
func (s *images) Channels() int { return s.l[0].C }

// Read is a pixel of an image; none, if there is none.
func (s *images) Read(k, x, y int) []byte {
	w, h := s.Size(k)
	if x < 0 || x >= w || y < 0 || y >= h {
		return nil
	}
	m := s.l[k]
	at := (y*w + x) * m.C
	return bytes.Clone(m.Pix[at : at+m.C])
}
