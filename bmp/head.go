package bmp

import (
	"anamorph/api"
	"anamorph/cut"
)

const (
	word = "BM"    // stands ahead of the numbers
	long = 54      // so many bytes has the head, with the word
	info = 40      // so many of them tell of the image
	half = 1 << 31 // heights from it on have the first row first
)

// The head's numbers behind the word, in their order; those without a name are 0.
const (
	all = iota // the bytes there are
	_
	ahead  // the bytes ahead of the rows
	about  // those of them that tell of the image
	width  // the columns
	height // the rows, and which of them stands first
	planes // 1
	bits   // those of a pixel
	_
	behind // the bytes behind the head, or 0
	across // may be any
	down   // may be any
	_
	_
	numbers // how many there are
)

// head is the numbers.
type head [numbers]uint32

// digits is how many bytes a number has.
func digits(i int) int {
	if i == planes || i == bits {
		return 2
	}
	return 4
}

// begin cuts off a head.
func begin(c *cut.Cut) (head, api.Errno) {
	if e := c.Word(word); e != api.OK {
		return head{}, e
	}
	if c.At()+c.Left() < long {
		return head{}, api.ErrShort
	}
	var h head
	for i := range h {
		h[i], _ = c.Low(digits(i))
	}
	return h, api.OK
}

// of is the head of an image.
func of(m api.Image) head {
	h := head{
		all:    uint32(Size(m.W, m.H, m.C)),
		width:  uint32(m.W),
		height: uint32(m.H),
		bits:   uint32(m.C * 8),
	}
	return h.plain()
}

// plain is a head with those numbers put right that are the same in all heads.
func (h head) plain() head {
	return head{
		all:    h[all],
		ahead:  long,
		about:  info,
		width:  h[width],
		height: h[height],
		planes: 1,
		bits:   h[bits],
		behind: h[behind],
		across: h[across],
		down:   h[down],
	}
}

// bytes is the head as bytes.
func (h head) bytes() []byte {
	b := []byte(word)
	for i, x := range h {
		for range digits(i) {
			b = append(b, byte(x))
			x >>= 8
		}
	}
	return b
}

// check tells what is wrong with a head that so many bytes stand behind.
func (h head) check(left int) api.Errno {
	switch {
	case h != h.plain() || h[bits] != 24 && h[bits] != 32:
		return api.ErrForm
	case h[width] == 0 || h.rows() == 0:
		return api.ErrSize
	case h[width] > api.MaxSide || h.rows() > api.MaxSide || h[width]*h.rows() > api.MaxPix:
		return api.ErrLimit
	}
	need := Stride(int(h[width]), h.channels()) * int(h.rows())
	switch {
	case left < need:
		return api.ErrShort
	case left > need:
		return api.ErrMore
	case h[all] != uint32(long+need) || h[behind] != 0 && h[behind] != uint32(need):
		return api.ErrForm
	}
	return api.OK
}

func (h head) channels() int { return int(h[bits] / 8) }

// falls tells whether the first row stands first.
func (h head) falls() bool { return h[height] >= half }

// row is which row of the image stands there, counted from the first one behind the head.
func (h head) row(i int) int {
	if h.falls() {
		return i
	}
	return int(h.rows()) - 1 - i
}

// rows is how many there are.
func (h head) rows() uint32 {
	if h.falls() {
		return -h[height]
	}
	return h[height]
}
