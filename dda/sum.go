package dda

import (
	"anamorph/api"
	"anamorph/quot"
	"anamorph/wide"
)

// sum is a quotient, in parts of a pixel, that grows from column to column. What is left over is kept with it: so nothing is lost by adding.
type sum struct {
	by          int64    // what is divided by, above 0
	whole, step wide.Int // the quotient, rounded down, and by how much it grows
	rest, more  int64    // what is left over, and by how much that grows: both from 0 on, below what is divided by
}

// start is the column, or the row, where a place comes from, by its numbers and what they are divided by. They are below 2^62 together: they have room.
func start(k [3]int64, by, x, y int64) sum {
	if by < 0 {
		by, k = -by, [3]int64{-k[0], -k[1], -k[2]}
	}
	s := sum{by: by}
	s.whole, s.rest = parts(k[0]*x+k[1]*y+k[2], by)
	s.step, s.more = parts(k[0], by)
	return s
}

// parts is a quotient in parts of a pixel, rounded down, and what is left over.
func parts(n, by int64) (wide.Int, int64) {
	whole, rest, _ := quot.Wide(wide.Mul(n, api.One), by)
	return whole, rest
}

// place is the quotient as a place.
func (s *sum) place() int64 { return quot.Cut(s.whole) }

// next goes on by one column.
func (s *sum) next() {
	s.grow(s.step)
	s.rest += s.more
	if s.rest >= s.by {
		s.rest -= s.by
		s.grow(wide.Of(1))
	}
}

// skip goes on by some columns.
func (s *sum) skip(n int64) {
	left, _ := wide.Add(wide.Mul(s.more, n), wide.Of(s.rest)) // it may have no room in 64 bits
	over, rest, _ := quot.Wide(left, s.by)
	steps, _ := wide.Scale(s.step, n)
	s.grow(steps)
	s.grow(over)
	s.rest = rest
}

// grow adds to the quotient. It is below 2^80: it always has room.
func (s *sum) grow(n wide.Int) { s.whole, _ = wide.Add(s.whole, n) }
