// Package quot is layer 2: quotients of whole numbers, rounded as is told, at any sign.
package quot

import (
	"math"
	"math/bits"

	"anamorph/api"
	"anamorph/wide"
)

// Floor is a quotient, rounded down; false: there is none, or it has no room.
func Floor(a, b int64) (int64, bool) {
	if b == 0 || a == math.MinInt64 && b == -1 {
		return 0, false
	}
	q := a / b
	if rest := a % b; rest != 0 && (rest < 0) != (b < 0) {
		q--
	}
	return q, true
}

// Mod is what is left of a quotient, rounded down; false: there is none.
func Mod(a, b int64) (int64, bool) {
	if b == 0 {
		return 0, false
	}
	rest := a % b
	if rest != 0 && (rest < 0) != (b < 0) {
		rest += b
	}
	return rest, true
}

// Near is a quotient, rounded to the nearer number; false: there is none, or it has no room.
func Near(a, b int64) (int64, bool) {
	q, is := Floor(a, b)
	if !is {
		return 0, false
	}
	// A quotient that isn't whole is at most 2^62: one more has room.
	if rest, _ := Mod(a, b); half(rest, b) {
		q++
	}
	return q, true
}

// Wide is a quotient, rounded down, and what is left; false: there is none, or it has no room.
func Wide(a wide.Int, b int64) (wide.Int, int64, bool) {
	if b == 0 {
		return wide.Int{}, 0, false
	}
	if b > 0 {
		q, rest := divide(a, uint64(b))
		return q, int64(rest), true
	}
	q, rest := divide(a, -uint64(b))
	if rest == 0 {
		n, is := wide.Neg(q)
		return n, 0, is
	}
	return flip(q), int64(rest) + b, true
}

// Half is a quotient, rounded to the nearer number, of two the greater one; false: there is none, or it has no room.
func Half(a wide.Int, b int64) (wide.Int, bool) {
	q, rest, is := Wide(a, b)
	if is && half(rest, b) {
		return wide.Add(q, wide.Of(1))
	}
	return q, is
}

// Cut is a number as a place: no further away than may be.
func Cut(a wide.Int) int64 {
	x, is := wide.Fits(a)
	switch {
	case is:
		return min(max(x, -api.Far), api.Far)
	case wide.Sign(a) < 0:
		return -api.Far
	}
	return api.Far
}

// Place is a quotient in parts of a pixel, rounded down, as a place; false: there is none.
func Place(a wide.Int, b int64) (int64, bool) {
	if b == 0 {
		return 0, false
	}
	q, rest, is := Wide(a, b)
	if !is {
		return api.Far, true // the one quotient that has no room is 2^127
	}
	// The whole pixels may be cut ahead: times One, what was cut lies beyond Far all the same.
	parts, _, _ := Wide(wide.Mul(rest, api.One), b)
	sum, _ := wide.Add(wide.Mul(Cut(q), api.One), parts)
	return Cut(sum), true
}

// half tells whether what is left is a half of the divisor, or more; both have one sign.
func half(rest, b int64) bool {
	if b < 0 {
		return rest <= b-rest
	}
	return rest >= b-rest
}

// divide is a quotient, rounded down, and what is left, by a divisor above 0, at most 2^63.
func divide(a wide.Int, b uint64) (wide.Int, uint64) {
	if a.Hi >= 0 {
		return upper(a, b)
	}
	// Flipped, what is rounded down is rounded down from the other side: nothing is to be put right.
	q, rest := upper(flip(a), b)
	return flip(q), b - 1 - rest
}

// upper divides a number that isn't below 0.
func upper(a wide.Int, b uint64) (wide.Int, uint64) {
	hi := uint64(a.Hi)
	lo, rest := bits.Div64(hi%b, a.Lo, b)
	return wide.Int{Hi: int64(hi / b), Lo: lo}, rest
}

// flip is -1 less the number: it always has room.
func flip(a wide.Int) wide.Int { return wide.Int{Hi: ^a.Hi, Lo: ^a.Lo} }
