// Package mat is layer 5: matrices of three by three whole numbers, exactly.
package mat

import (
	"anamorph/api"
	"anamorph/wide"
)

// M is a matrix, row by row.
type M [9]int64

// Wide is one of wide numbers.
type Wide [9]wide.Int

// most is how far from 0 a number may be. With it a determinant is below 2^96: no sum and no product of this package lacks room.
const most = 1 << 31

// Right tells whether no number is too far from 0.
func Right(m M) bool {
	for _, x := range m {
		if !near(x) {
			return false
		}
	}
	return true
}

// Adj is the adjugate.
func Adj(m M) (Wide, api.Errno) {
	if !Right(m) {
		return Wide{}, api.ErrRange
	}
	var a Wide
	for i := range 3 {
		for k := range 3 {
			a[3*i+k] = m.minor(k, i)
		}
	}
	return a, api.OK
}

// Det is the determinant.
func Det(m M) (wide.Int, api.Errno) {
	if !Right(m) {
		return wide.Int{}, api.ErrRange
	}
	var d wide.Int
	for k := range 3 {
		p, _ := wide.Scale(m.minor(0, k), m[k])
		d, _ = wide.Add(d, p)
	}
	return d, api.OK
}

// Mul is the product of two matrices.
func Mul(m, n M) (Wide, api.Errno) {
	if !Right(m) || !Right(n) {
		return Wide{}, api.ErrRange
	}
	var p Wide
	for k := range 3 {
		column := m.times([3]int64{n[k], n[3+k], n[6+k]})
		for i := range 3 {
			p[3*i+k] = column[i]
		}
	}
	return p, api.OK
}

// Turn is a matrix with its rows as columns.
func Turn(m M) M {
	var t M
	for i := range 3 {
		for k := range 3 {
			t[3*i+k] = m[3*k+i]
		}
	}
	return t
}

// Unit is the one that changes nothing.
func Unit() M { return M{1, 0, 0, 0, 1, 0, 0, 0, 1} }

// Put is a matrix times a column.
func Put(m M, x, y, z int64) ([3]wide.Int, api.Errno) {
	if !Right(m) || !near(x) || !near(y) || !near(z) {
		return [3]wide.Int{}, api.ErrRange
	}
	return m.times([3]int64{x, y, z}), api.OK
}

// near tells whether a number isn't too far from 0.
func near(x int64) bool { return -most <= x && x <= most }

// times is a matrix times a column, all of them right.
func (m M) times(column [3]int64) [3]wide.Int {
	var p [3]wide.Int
	for i := range 3 {
		for k := range 3 {
			p[i], _ = wide.Add(p[i], wide.Mul(m[3*i+k], column[k]))
		}
	}
	return p
}

// minor is the determinant of what is left without a row and a column, with the sign of their place.
func (m M) minor(row, column int) wide.Int {
	// Gone through round the matrix, from behind what is left out on, the rest brings its sign along.
	r, s := 3*((row+1)%3), 3*((row+2)%3)
	c, d := (column+1)%3, (column+2)%3
	x, _ := wide.Sub(wide.Mul(m[r+c], m[s+d]), wide.Mul(m[r+d], m[s+c]))
	return x
}
