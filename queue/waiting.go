package queue

import "anamorph/api"

// one is a tile that waits, with its number, and how many were pushed ahead of it.
type one struct {
	tile  api.Tile
	p     int64
	ahead int
}

// waiting is a heap: the one that comes first stands at its top.
type waiting []one

func (l waiting) Len() int { return len(l) }

func (l waiting) Less(i, j int) bool {
	if l[i].p != l[j].p {
		return l[i].p < l[j].p
	}
	return l[i].ahead < l[j].ahead
}

func (l waiting) Swap(i, j int) { l[i], l[j] = l[j], l[i] }

func (l *waiting) Push(x any) { *l = append(*l, x.(one)) }

func (l *waiting) Pop() any {
	last := len(*l) - 1
	x := (*l)[last]
	*l = (*l)[:last]
	return x
}
