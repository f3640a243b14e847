package foot

import (
	"anamorph/api"
	"anamorph/quot"
)

// part is columns from lo to hi, beyond a row of n things, too.
type part struct{ lo, hi, n int64 }

// modes is which things each mode asks for.
func modes() [4]func(part) []Run {
	return [...]func(part) []Run{
		api.Const:  part.inside,
		api.Clamp:  part.clamp,
		api.Wrap:   part.wrap,
		api.Mirror: part.mirror,
	}
}

func (p part) inside() []Run { return []Run{p.row(0).run()} }

func (p part) clamp() []Run {
	last := p.n - 1
	return []Run{part{min(max(p.lo, 0), last), min(max(p.hi, 0), last), p.n}.run()}
}

func (p part) wrap() []Run { return p.rows(part.run) }

func (p part) mirror() []Run { return p.rows(part.back) }

// rows is the things of a row that comes again and again; second tells those of each second time.
func (p part) rows(second func(part) Run) []Run {
	first, _ := quot.Floor(p.lo, p.n)
	last, _ := quot.Floor(p.hi, p.n)
	if last > first+1 { // a whole row lies between
		return []Run{{0, int(p.n)}}
	}
	var l []Run
	for k := first; k <= last; k++ {
		if k%2 == 0 {
			l = append(l, p.row(k).run())
		} else {
			l = append(l, second(p.row(k)))
		}
	}
	return l
}

// row is the columns of the k-th time that the row comes, counted from its first one; none, if hi is below lo.
func (p part) row(k int64) part {
	off := k * p.n
	return part{max(p.lo-off, 0), min(p.hi-off, p.n-1), p.n}
}

// run is the columns as things, read on.
func (p part) run() Run { return Run{int(p.lo), int(p.hi) + 1} }

// back is the columns as things, read back.
func (p part) back() Run { return Run{int(p.n - 1 - p.hi), int(p.n - p.lo)} }
