package queue_test

import (
	"cmp"
	"fmt"
	"math"
	"slices"
	"testing"

	"anamorph/api"
	"anamorph/queue"
	"anamorph/store"
)

const far = 1 << 31

// next is numbers without any pattern.
func next(x *uint64, n int) int {
	*x = *x*6364136223846793005 + 1442695040888963407
	return int(*x>>33) % n
}

// one is a tile that waits, and its number.
type one struct {
	t api.Tile
	p int64
}

// list is tiles that wait, as they were pushed.
type list []one

func (l *list) pop() (api.Tile, int64, bool) {
	if len(*l) == 0 {
		return api.Tile{}, 0, false
	}
	at := 0
	for i, o := range *l {
		if o.p < (*l)[at].p {
			at = i
		}
	}
	o := (*l)[at]
	*l = slices.Delete(*l, at, at+1)
	return o.t, o.p, true
}

// popped checks what a queue's Pop tells.
func popped(t *testing.T, q *queue.Queue, l *list) {
	t.Helper()
	want, n, has := l.pop()
	if tile, p, is := q.Pop(); tile != want || p != n || is != has {
		t.Fatalf("Pop: %v %d %v, not %v %d %v", tile, p, is, want, n, has)
	}
	if q.Len() != len(*l) {
		t.Fatalf("Len: %d, not %d", q.Len(), len(*l))
	}
}

func TestP43_1_ByHand(t *testing.T) {
	q := queue.New()
	a, b, c := api.Tile{I: 1}, api.Tile{Level: 2}, api.Tile{Level: -3, I: math.MaxInt}
	if q.Len() != 0 {
		t.Error(q.Len())
	}
	q.Push(a, 2)
	q.Push(b, 1)
	q.Push(c, 2)
	q.Push(a, 1)
	q.Push(b, 2)
	for i, want := range []one{{b, 1}, {a, 1}, {a, 2}, {c, 2}, {b, 2}} {
		if q.Len() != 5-i {
			t.Errorf("Len: %d", q.Len())
		}
		if tile, p, is := q.Pop(); tile != want.t || p != want.p || !is {
			t.Errorf("Pop: %v %d %v, not %v", tile, p, is, want)
		}
	}
	for range 3 {
		if tile, p, is := q.Pop(); tile != (api.Tile{}) || p != 0 || is || q.Len() != 0 {
			t.Errorf("Pop: %v %d %v", tile, p, is)
		}
	}
	q.Push(c, -1)
	if tile, p, is := q.Pop(); tile != c || p != -1 || !is {
		t.Errorf("Pop: %v %d %v", tile, p, is)
	}
}

// Whatever waits, with whichever numbers: those at the ends, and many that are the same.
func TestP43_1_Any(t *testing.T) {
	x := uint64(1)
	for _, numbers := range [][]int64{{5}, {1, 2}, {0, -1, 1, 2, 3, 4, 5, 6, 7, 8, 9}, {math.MinInt64, math.MinInt64 + 1, -1, 0, 1, math.MaxInt64 - 1, math.MaxInt64}} {
		q, l := queue.New(), list{}
		for n := range 3000 {
			if next(&x, 5) < 3 {
				o := one{api.Tile{Level: next(&x, 3), I: n % 50}, numbers[next(&x, len(numbers))]}
				q.Push(o.t, o.p)
				l = append(l, o)
			} else {
				popped(t, q, &l)
			}
		}
		for range len(l) + 2 {
			popped(t, q, &l)
		}
	}
}

func TestP43_1_None(t *testing.T) {
	var q *queue.Queue
	for range 2 {
		q.Push(api.Tile{I: 3}, 5)
		if tile, p, is := q.Pop(); tile != (api.Tile{}) || p != 0 || is || q.Len() != 0 {
			t.Errorf("Pop of none: %v %d %v, %d wait", tile, p, is, q.Len())
		}
	}
}

func TestP43_1_Zero(t *testing.T) {
	var q queue.Queue
	l := list{}
	popped(t, &q, &l)
	for i, p := range []int64{4, 2, 4, 2, 3} {
		o := one{api.Tile{I: i}, p}
		q.Push(o.t, o.p)
		l = append(l, o)
	}
	for range 7 {
		popped(t, &q, &l)
	}
	a, b := queue.New(), queue.New()
	a.Push(api.Tile{}, 1)
	if a.Len() != 1 || b.Len() != 0 {
		t.Error("two are one")
	}
}

// apart is how far a pixel is from the nearest place of a rectangle, by all of its places.
func apart(r api.Rect, x, y int) int64 {
	least := math.MaxInt
	for j := r.Y0; j < r.Y1; j++ {
		for i := r.X0; i < r.X1; i++ {
			least = min(least, max(i-x, x-i)+max(j-y, y-j))
		}
	}
	if least == math.MaxInt {
		return 0
	}
	return int64(least)
}

func TestP43_2_Apart(t *testing.T) {
	for x0 := -3; x0 < 3; x0++ {
		for y0 := -2; y0 < 2; y0++ {
			for w := -1; w < 4; w++ {
				for h := -1; h < 4; h++ {
					r := api.Rect{X0: x0, Y0: y0, X1: x0 + w, Y1: y0 + h}
					for x := -8; x < 8; x++ {
						for y := -7; y < 7; y++ {
							if d, want := queue.Apart(r, x, y), apart(r, x, y); d != want {
								t.Fatalf("Apart(%v, %d, %d): %d, not %d", r, x, y, d, want)
							}
						}
					}
				}
			}
		}
	}
}

func TestP43_2_Ends(t *testing.T) {
	all := api.Rect{X0: -far, Y0: -far, X1: far, Y1: far}
	last := api.Rect{X0: far - 1, Y0: far - 1, X1: far, Y1: far}
	first := api.Rect{X0: -far, Y0: -far, X1: 1 - far, Y1: 1 - far}
	unit := api.Rect{X1: 1, Y1: 1}
	for _, c := range []struct {
		r    api.Rect
		x, y int
		want int64
	}{
		{unit, 0, 0, 0}, {unit, far, 0, far}, {unit, far + 1, 0, far}, {unit, math.MaxInt, math.MinInt, 2 * far}, {unit, -far, -far - 1, 2 * far}, {unit, 1 << 32, 5, far + 5},
		{all, far, far, 2}, {all, math.MaxInt, far - 1, 1}, {all, -far, math.MinInt, 0}, {all, 0, 0, 0},
		{last, math.MinInt, math.MinInt, 4*far - 2}, {last, math.MaxInt, math.MaxInt, 2}, {last, far - 1, far, 1}, {first, math.MinInt, -far - 1, 0}, {first, math.MaxInt, far, 4 * far},
		{api.Rect{X1: far + 1, Y1: 1}, -5, 0, 0}, {api.Rect{X0: -far - 1, X1: 3, Y1: 1}, 9, 9, 0}, {api.Rect{X0: math.MinInt, Y0: math.MinInt, X1: math.MaxInt, Y1: math.MaxInt}, 1, 1, 0}, {api.Rect{X1: 1, Y1: math.MaxInt}, -9, 0, 0}, {api.Rect{Y0: math.MinInt, X1: 1, Y1: 1}, 9, 0, 0},
		{api.Rect{}, 5, 5, 0}, {api.Rect{X0: 5, Y0: 5, X1: 5, Y1: 9}, 0, 0, 0}, {api.Rect{X0: 5, Y0: 5, X1: 9, Y1: 4}, 0, 0, 0}, {api.Rect{X0: 5, Y0: 6, X1: 6, Y1: 7}, 0, 0, 11}, {api.Rect{X0: 5, Y0: 6, X1: 6, Y1: 7}, 6, 7, 2},
	} {
		if d := queue.Apart(c.r, c.x, c.y); d != c.want {
			t.Errorf("Apart(%v, %d, %d): %d, not %d", c.r, c.x, c.y, d, c.want)
		}
	}
}

// images are such of a pyramid, and more than there are bits in a number.
func images(n int) []api.Image {
	var l []api.Image
	w, h := 13, 9
	for range n {
		l = append(l, api.Image{W: w, H: h, C: 1, Pix: make([]byte, w*h)})
		w, h = (w+1)/2, (h+1)/2
	}
	return l
}

// stored is a store.
func stored(t *testing.T, l []api.Image, tw, th int) *store.Store {
	t.Helper()
	s, e := store.New(l, tw, th)
	if e != api.OK {
		t.Fatal(e)
	}
	return s
}

// down is a number, cut, and halved some times, each time rounded down.
func down(x, k int) int {
	x = min(max(x, -far), far)
	for range k {
		x = int(math.Floor(float64(x) / 2))
	}
	return x
}

// order is tiles in the order in which they are fetched, as the document tells it.
func order(s *store.Store, l []api.Tile, x, y int) []api.Tile {
	var has []api.Tile
	for _, tile := range l {
		if _, is := s.Place(tile); is {
			has = append(has, tile)
		}
	}
	apart := func(tile api.Tile) int64 {
		r, _ := s.Place(tile)
		return queue.Apart(r, down(x, tile.Level), down(y, tile.Level))
	}
	slices.SortStableFunc(has, func(a, b api.Tile) int { return cmp.Compare(apart(a), apart(b)) })
	return has
}

// pixels are such from which tiles may be asked for.
func pixels() [][2]int {
	return [][2]int{{0, 0}, {6, 4}, {12, 8}, {13, 9}, {-1, -1}, {-7, 20}, {40, -30}, {5, -1}, {far, far}, {-far, far + 1}, {math.MinInt, math.MaxInt}, {math.MaxInt, 3}, {1 << 32, -1 << 32}, {-3, 1 << 40}, {7, 7}}
}

func TestP43_3_Order(t *testing.T) {
	x := uint64(3)
	for _, n := range []int{1, 2, 4, 70} {
		for _, z := range [][2]int{{1, 1}, {2, 3}, {5, 5}, {4096, 4096}} {
			s := stored(t, images(n), z[0], z[1])
			all := s.All()
			var some []api.Tile
			for range 60 { // in any order, some of them more than once, and some that there aren't
				some = append(some, all[next(&x, len(all))], api.Tile{Level: next(&x, n+3) - 1, I: next(&x, 12) - 2})
			}
			for _, l := range [][]api.Tile{all, some, some[:3], nil, {}, {{Level: -1}, {I: -1}, {Level: n}, {I: 1 << 40}, {Level: math.MinInt}, {Level: math.MaxInt, I: math.MaxInt}}} {
				own := slices.Clone(l)
				for _, p := range pixels() {
					got := queue.Order(s, l, p[0], p[1])
					if want := order(s, l, p[0], p[1]); !slices.Equal(got, want) {
						t.Fatalf("Order of %d images, tiles of %v, from %v: %v, not %v", n, z, p, got, want)
					}
					clear(got)
					if !slices.Equal(own, l) {
						t.Fatal("what is handed in has changed")
					}
				}
			}
			if s.Fetched() != 0 {
				t.Errorf("fetched: %d", s.Fetched())
			}
		}
	}
}

func TestP43_3_ByHand(t *testing.T) {
	s := stored(t, images(2), 5, 5) // three by two tiles; of half of it two by one
	l := s.All()
	for _, c := range []struct {
		x, y int
		want []api.Tile
	}{
		{0, 0, []api.Tile{{I: 0}, {Level: 1, I: 0}, {I: 1}, {I: 3}, {Level: 1, I: 1}, {I: 2}, {I: 4}, {I: 5}}},  // 0, 0, 5, 5, 5, 10, 10, 15
		{12, 8, []api.Tile{{I: 5}, {Level: 1, I: 1}, {Level: 1, I: 0}, {I: 4}, {I: 2}, {I: 1}, {I: 3}, {I: 0}}}, // 0, 0, 2, 3, 4, 7, 8, 12
		{-3, 0, []api.Tile{{Level: 1, I: 0}, {I: 0}, {Level: 1, I: 1}, {I: 1}, {I: 3}, {I: 2}, {I: 4}, {I: 5}}}, // half of -3 is -2: 2, 3, 7, 8, 8, 13, 13, 18
	} {
		if got := queue.Order(s, l, c.x, c.y); !slices.Equal(got, c.want) {
			t.Errorf("from %d, %d: %v, not %v", c.x, c.y, got, c.want)
		}
	}
	twice := []api.Tile{{I: 5}, {I: 0}, {I: 5}, {I: 9}, {I: 0}}
	if got := queue.Order(s, twice, 0, 0); !slices.Equal(got, []api.Tile{{I: 0}, {I: 0}, {I: 5}, {I: 5}}) {
		t.Error(got)
	}
}

func TestP43_3_None(t *testing.T) {
	for _, p := range pixels() {
		for _, s := range []*store.Store{nil, {}} {
			if l := queue.Order(s, []api.Tile{{}, {I: 1}, {Level: 1}}, p[0], p[1]); len(l) != 0 {
				t.Errorf("Order of none: %v", l)
			}
		}
	}
}

// P1 and P2: the same calls tell the same, whatever was called between.
func TestP1_P2_TheSameAgain(t *testing.T) {
	s := stored(t, images(4), 3, 2)
	told := func() []string {
		var all []string
		q, x := queue.New(), uint64(8)
		for i := range 3000 {
			p := pixels()[i%len(pixels())]
			tile := api.Tile{Level: i % 4, I: next(&x, 20)}
			q.Push(tile, int64(next(&x, 5)))
			if next(&x, 3) == 0 {
				all = append(all, fmt.Sprintln(q.Pop()))
			}
			r := api.Rect{X0: i % 3, X1: i % 5, Y1: i % 4}
			all = append(all, fmt.Sprint(q.Len(), queue.Apart(r, p[0], p[1]), queue.Order(s, []api.Tile{tile, {I: i % 9}, tile}, p[1], p[0])))
		}
		return all
	}
	if !slices.Equal(told(), told()) {
		t.Error("it changes")
	}
}
