package ages

import "cmp"

// thing is a number, when it was touched, and where it stands in the heap.
type thing struct {
	k, touched, place int
}

// order tells which of two things was touched longer ago.
func (t *thing) order(s *thing) int { return cmp.Compare(t.touched, s.touched) }

// things are a heap: the one that was touched longest ago stands at its top.
type things []*thing

func (l things) Len() int { return len(l) }

func (l things) Less(i, j int) bool { return l[i].order(l[j]) < 0 }

func (l things) Swap(i, j int) {
	l[i], l[j] = l[j], l[i]
	l[i].place, l[j].place = i, j
}

func (l *things) Push(x any) {
	t := x.(*thing)
	t.place = len(*l)
	*l = append(*l, t)
}

func (l *things) Pop() any {
	last := len(*l) - 1
	t := (*l)[last]
	(*l)[last] = nil // what is there no more isn't kept
	*l = (*l)[:last]
	return t
}
