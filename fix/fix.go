// Package fix is layer 4: numbers in parts of One.
package fix

import (
	"anamorph/api"
	"anamorph/quot"
	"anamorph/wide"
)

// most is how many numbers a row may have.
const most = 64

// Add is the sum; false: it has no room.
func Add(a, b int64) (int64, bool) {
	s, _ := wide.Add(wide.Of(a), wide.Of(b))
	return wide.Fits(s)
}

// Sub is the difference; false: it has no room.
func Sub(a, b int64) (int64, bool) {
	d, _ := wide.Sub(wide.Of(a), wide.Of(b))
	return wide.Fits(d)
}

// Mul is the product, rounded down; false: it has no room.
func Mul(a, b int64) (int64, bool) {
	q, _, _ := quot.Wide(wide.Mul(a, b), api.One)
	return wide.Fits(q)
}

// Div is the quotient, rounded down; false: there is none, or it has no room.
func Div(a, b int64) (int64, bool) {
	q, _, is := quot.Wide(wide.Mul(a, api.One), b)
	if !is {
		return 0, false
	}
	return wide.Fits(q)
}

// Dot is products added up, rounded down once; false: the rows don't fit, or it has no room.
func Dot(a, b []int64) (int64, bool) {
	if len(a) != len(b) || len(a) > most {
		return 0, false
	}
	// The products of a whole row may have no room in 128 bits; their quotients have, and what is left of them is added up apart.
	var sum wide.Int
	var left int64
	for i := range a {
		q, rest, _ := quot.Wide(wide.Mul(a[i], b[i]), api.One)
		sum, _ = wide.Add(sum, q)
		left += rest
	}
	sum, _ = wide.Add(sum, wide.Of(left/api.One))
	return wide.Fits(sum)
}

// Horner is a row's numbers, each behind a product; false: something has no room.
func Horner(c []int64, x int64) (int64, bool) {
	if len(c) > most {
		return 0, false
	}
	var v int64
	for _, n := range c {
		p, is := Mul(v, x)
		if !is {
			return 0, false
		}
		if v, is = Add(p, n); !is {
			return 0, false
		}
	}
	return v, true
}
