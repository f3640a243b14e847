package wide

import "math/bits"

// size is how far from 0 a number is: hi times 2^64, and lo.
type size struct {
	hi, lo uint64
}

// edge is the hi of 2^127, the size of the least Int: one more than the greatest Int has.
const edge = 1 << 63

// sizeOf is the size of a number.
func sizeOf(a Int) size {
	s := size{uint64(a.Hi), a.Lo}
	if below(a) {
		return s.turned()
	}
	return s
}

// turned is 2^128 less the size, as the halves of an Int hold a number below 0.
func (s size) turned() size {
	lo, borrow := bits.Sub64(0, s.lo, 0)
	hi, _ := bits.Sub64(0, s.hi, borrow)
	return size{hi, lo}
}

// signed is the number of that size, of either sign; false: it has no room.
func (s size) signed(negative bool) (Int, bool) {
	put := s.plus
	if negative {
		put = s.minus
	}
	return put()
}

func (s size) plus() (Int, bool) {
	if s.hi >= edge {
		return Int{}, false
	}
	return Int{int64(s.hi), s.lo}, true
}

func (s size) minus() (Int, bool) {
	if s.hi > edge || s.hi == edge && s.lo > 0 {
		return Int{}, false
	}
	t := s.turned()
	return Int{int64(t.hi), t.lo}, true
}

// tenth is a tenth of the size, rounded down, and the digit that is left.
func (s size) tenth() (size, uint64) {
	hi, rest := s.hi/10, s.hi%10
	lo, digit := bits.Div64(rest, s.lo, 10)
	return size{hi, lo}, digit
}
