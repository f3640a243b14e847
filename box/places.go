package box

import "anamorph/api"

// line is places one way, in parts of a pixel: from the first to the last one, a step apart.
type line struct {
	first, last, step int64
}

// along is the places of the pixels from one on, below another one: the middle of each, or n of each.
func along(from, to int, n int64) line {
	if n == 0 {
		return line{int64(from), int64(to) - 1, 1}
	}
	return line{2*n*int64(from) + 1 - n, 2*n*int64(to-1) + n - 1, 2}
}

// ends is just the first and the last one.
func (l line) ends() line {
	return line{l.first, l.last, max(l.last-l.first, l.step)}
}

// net is places of columns and rows, in parts of which d are a pixel.
type net struct {
	columns, rows line
	d             int64
}

// places is all that are asked for of a part's pixels.
func places(r api.Rect, n int) net {
	by := int64(n)
	return net{along(r.X0, r.X1, by), along(r.Y0, r.Y1, by), max(2*by, 1)}
}

// corners is just the places at the corners.
func (n net) corners() net {
	return net{n.columns.ends(), n.rows.ends(), n.d}
}

// asked is the least box that has all from where places come; there is one, at least.
func asked(at func(px, py, d int64) (int64, int64, api.Errno), n net) Box {
	u, v, _ := at(n.columns.first, n.rows.first, n.d) // each place of an image's pixels comes from one
	b := Box{u, v, u, v}
	for y := n.rows.first; y <= n.rows.last; y += n.rows.step {
		for x := n.columns.first; x <= n.columns.last; x += n.columns.step {
			u, v, _ = at(x, y, n.d)
			b = Around(b, Box{u, v, u, v})
		}
	}
	return b
}
