// Package rat is layer 3: fractions, exactly.
package rat

import (
	"slices"

	"anamorph/quot"
	"anamorph/wide"
)

// Rat is N divided by D.
type Rat struct {
	N, D int64
}

// Right tells whether a fraction is one.
func Right(a Rat) bool { return a.D > 0 }

// Least is a fraction of the least divisor.
func Least(a Rat) (Rat, bool) {
	if !Right(a) {
		return Rat{}, false
	}
	d := common(a.N, a.D)
	return Rat{a.N / d, a.D / d}, true
}

// Cmp tells how two fractions stand to each other.
func Cmp(a, b Rat) (int, bool) {
	if !Right(a) || !Right(b) {
		return 0, false
	}
	return wide.Cmp(wide.Mul(a.N, b.D), wide.Mul(b.N, a.D)), true
}

// Add is the sum; false: it has no room.
func Add(a, b Rat) (Rat, bool) {
	a, b, is := leasts(a, b)
	if !is {
		return Rat{}, false
	}
	// Of two fractions of the least divisors, only what the divisors have in common can go out of the sum.
	d := common(a.D, b.D)
	// Each product is at most 2^63 times 2^63 - 1 in size: the sum of two always has room.
	n, _ := wide.Add(wide.Mul(a.N, b.D/d), wide.Mul(b.N, a.D/d))
	_, rest, _ := quot.Wide(n, d)
	out := common(rest, d)
	n, _, _ = quot.Wide(n, out)
	return room(n, wide.Mul(a.D/d, b.D/out))
}

// Mul is the product; false: it has no room.
func Mul(a, b Rat) (Rat, bool) {
	a, b, is := leasts(a, b)
	if !is {
		return Rat{}, false
	}
	// Each number above a line goes only with the other one's divisor: with its own it has nothing in common.
	c, d := common(a.N, b.D), common(b.N, a.D)
	return room(wide.Mul(a.N/c, b.N/d), wide.Mul(a.D/d, b.D/c))
}

// Floor is a fraction rounded down.
func Floor(a Rat) (int64, bool) {
	if !Right(a) {
		return 0, false
	}
	return quot.Floor(a.N, a.D)
}

// Near is a fraction rounded to the nearer number.
func Near(a Rat) (int64, bool) {
	if !Right(a) {
		return 0, false
	}
	return quot.Near(a.N, a.D)
}

// Sort is fractions by rising numbers; none, if one isn't right.
func Sort(l []Rat) []Rat {
	for _, a := range l {
		if !Right(a) {
			return nil
		}
	}
	sorted := append([]Rat(nil), l...)
	slices.SortStableFunc(sorted, Rat.order)
	return sorted
}

// order is how a right fraction stands to another one.
func (a Rat) order(b Rat) int {
	c, _ := Cmp(a, b)
	return c
}

// leasts is two fractions of the least divisors; false: one isn't right.
func leasts(a, b Rat) (Rat, Rat, bool) {
	a, first := Least(a)
	b, second := Least(b)
	return a, b, first && second
}

// room is a fraction of two numbers; false: one of them has no room.
func room(n, d wide.Int) (Rat, bool) {
	above, first := wide.Fits(n)
	below, second := wide.Fits(d)
	if !first || !second {
		return Rat{}, false
	}
	return Rat{above, below}, true
}

// common is the greatest divisor that a number has in common with one above 0.
func common(n, d int64) int64 {
	n, _ = quot.Mod(n, d)
	for n > 0 {
		n, d = d%n, n
	}
	return d
}
