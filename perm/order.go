package perm

// things stand in rows; seed is what Mixed begins with.
type things struct {
	cols, rows int
	seed       uint64
}

// maker keeps how an order is made.
type maker struct {
	order func(things) []int
}

// makers is how each kind's order is made.
func makers() [6]maker {
	return [...]maker{
		Straight: {things.straight},
		Back:     {things.back},
		Columns:  {things.columns},
		Snake:    {things.snake},
		Spiral:   {things.spiral},
		Mixed:    {things.mixed},
	}
}

func (t things) straight() []int {
	l := make([]int, t.cols*t.rows)
	for i := range l {
		l[i] = i
	}
	return l
}

func (t things) back() []int {
	l := t.straight()
	turn(l)
	return l
}

func (t things) columns() []int {
	l := make([]int, 0, t.cols*t.rows)
	for x := range t.cols {
		for y := range t.rows {
			l = append(l, y*t.cols+x)
		}
	}
	return l
}

func (t things) snake() []int {
	l := t.straight()
	for y := 1; y < t.rows; y += 2 {
		turn(l[y*t.cols : (y+1)*t.cols])
	}
	return l
}

func (t things) spiral() []int {
	l := make([]int, 0, t.cols*t.rows)
	steps := [...]int{1, t.cols, -1, -t.cols}
	// Each way leaves a row, or a column, less for all the ways across it; the first one across has the first row behind it.
	left := [...]int{t.cols, t.rows - 1}
	at := -1
	for way := 0; left[way%2] > 0; way++ {
		for range left[way%2] {
			at += steps[way%4]
			l = append(l, at)
		}
		left[way%2]--
	}
	return l
}

func (t things) mixed() []int {
	l := t.straight()
	x := t.seed
	if x == 0 {
		x = 1 // from 0 on no other number would ever come
	}
	for i := len(l) - 1; i > 0; i-- {
		x ^= x << 13
		x ^= x >> 7
		x ^= x << 17
		k := x % uint64(i+1)
		l[i], l[k] = l[k], l[i]
	}
	return l
}

// turn puts numbers the other way round.
func turn(l []int) {
	for i, k := 0, len(l)-1; i < k; i, k = i+1, k-1 {
		l[i], l[k] = l[k], l[i]
	}
}
