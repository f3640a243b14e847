package mesh

import (
	"anamorph/api"
	"anamorph/quot"
)

// knot is where a knot comes from.
type knot struct{ u, v int64 }

func (k knot) column() int64 { return k.u }

func (k knot) row() int64 { return k.v }

// knots are as many as there are pairs of numbers, in memory of their own.
func knots(c []int64) []knot {
	l := make([]knot, len(c)/2)
	for i := range l {
		l[i] = knot{c[2*i], c[2*i+1]}
	}
	return l
}

// knot is the one in column i, row k of the knots.
func (m *Map) knot(i, k int64) knot { return m.knots[k*(m.x.cells+1)+i] }

// side is how a mesh is cut one way: how long a cell is, and how many there are.
type side struct{ cell, cells int64 }

// right tells whether a mesh may be cut so.
func (s side) right() bool {
	return 1 <= s.cell && s.cell <= api.MaxCell && 1 <= s.cells && s.cells <= api.MaxCells
}

// spot is where a place lies one way: in which cell, how far from its first knots, and how long the cell is, both in parts of which d are a pixel.
type spot struct{ cell, off, whole int64 }

// spot is where a place lies; one outside lies at the mesh's end.
func (s side) spot(p, d int64) spot {
	whole := s.cell * d
	p = min(max(p, 0), whole*s.cells)
	i := min(p/whole, s.cells-1) // behind the last knots there is no cell: what lies there is in the last one
	return spot{i, p - i*whole, whole}
}

// ends are the first and the last cell that has a place half a pixel around the columns, or rows, from one on, below another one.
func (s side) ends(from, to int) [2]int64 {
	return [2]int64{s.spot(2*int64(from)-1, 2).cell, s.spot(2*int64(to)-1, 2).cell}
}

// mix is what lies between two numbers, times whole.
func (s spot) mix(a, b int64) int64 { return (s.whole-s.off)*a + s.off*b }

// between is what lies between the numbers of a cell's four knots. At most 2^59 is divided.
func (m *Map) between(ask func(knot) int64, x, y spot) int64 {
	upper := x.mix(ask(m.knot(x.cell, y.cell)), ask(m.knot(x.cell+1, y.cell)))
	lower := x.mix(ask(m.knot(x.cell, y.cell+1)), ask(m.knot(x.cell+1, y.cell+1)))
	n, _ := quot.Floor(y.mix(upper, lower), x.whole*y.whole)
	return n
}

// reach is the least and the greatest number of the knots of some cells.
func (m *Map) reach(ask func(knot) int64, x, y [2]int64) (int, int) {
	least := ask(m.knot(x[0], y[0]))
	most := least
	for k := y[0]; k <= y[1]+1; k++ {
		for i := x[0]; i <= x[1]+1; i++ {
			n := ask(m.knot(i, k))
			least, most = min(least, n), max(most, n)
		}
	}
	return int(least), int(most)
}
