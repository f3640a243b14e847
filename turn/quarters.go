package turn

// corner is the last pixel of the image that is turned; its numbers, and those of a place, are in the same parts.
type corner struct{ x, y int64 }

// quarters is from where a place comes by so many of them.
func quarters() [round]func(corner, int64, int64) (int64, int64) {
	return [...]func(corner, int64, int64) (int64, int64){corner.none, corner.one, corner.two, corner.three}
}

// from is from where a place comes, by a turn that there is.
func (l corner) from(q int, x, y int64) (int64, int64) {
	u, v := quarters()[q%round](l, x, y)
	if q >= mirrored {
		u = l.x - u
	}
	return u, v
}

func (l corner) none(x, y int64) (int64, int64) { return x, y }

func (l corner) one(x, y int64) (int64, int64) { return y, l.y - x }

func (l corner) two(x, y int64) (int64, int64) { return l.x - x, l.y - y }

func (l corner) three(x, y int64) (int64, int64) { return l.x - y, x }
