package cache_test

import (
	"bytes"
	"fmt"
	"math"
	"slices"
	"testing"

	"anamorph/api"
	"anamorph/cache"
	"anamorph/img"
	"anamorph/mip"
	"anamorph/sample"
	"anamorph/store"
)

// A cache is a source.
var _ sample.Source = (*cache.Cache)(nil)

// edges are numbers of no image, tile, column or row.
var edges = []int{math.MinInt, math.MinInt + 1, -1 << 32, -1 << 30, -2, -1, 99, 1 << 30, 1<<30 + 1, 1 << 32, math.MaxInt - 1, math.MaxInt}

// next is numbers without any pattern.
func next(x *uint64, n int) int {
	*x = *x*6364136223846793005 + 1442695040888963407
	return int(*x>>33) % n
}

// some is an image whose bytes differ.
func some(w, h, c int) api.Image {
	m := api.Image{W: w, H: h, C: c}
	for i := range w * h * c {
		m.Pix = append(m.Pix, byte(i*i*7+i*61+3))
	}
	return m
}

// pyramids are such of images of one pixel, one row, one column, and others; two are none, but images all the same.
func pyramids(t *testing.T) [][]api.Image {
	t.Helper()
	var l [][]api.Image
	for _, s := range [][3]int{{1, 1, 1}, {7, 1, 3}, {1, 5, 4}, {9, 6, 1}, {12, 10, 4}} {
		p, e := mip.Pyramid(some(s[0], s[1], s[2]), 15)
		if e != api.OK {
			t.Fatal(e)
		}
		l = append(l, p)
	}
	return append(l, []api.Image{some(3, 2, 3)}, []api.Image{some(2, 2, 1), some(5, 3, 1), some(1, 7, 1)})
}

// tiles are how large tiles are: of one pixel, as large as the image or larger, and others.
var tiles = [][2]int{{1, 1}, {2, 2}, {3, 1}, {5, 3}, {4096, 4096}}

// stored is a store.
func stored(t *testing.T, l []api.Image, tw, th int) *store.Store {
	t.Helper()
	s, e := store.New(l, tw, th)
	if e != api.OK {
		t.Fatal(e)
	}
	return s
}

// made is a cache.
func made(t *testing.T, s *store.Store, most int) *cache.Cache {
	t.Helper()
	c, e := cache.New(s, most)
	if c == nil || e != api.OK {
		t.Fatalf("New(%d): %v", most, e)
	}
	return c
}

// model is a cache as the document tells it: what is at hand, the one that was used longest ago first, what was counted, and what was seen.
type model struct {
	most  int
	hand  []api.Tile
	stats cache.Stats
	seen  []api.Tile
}

func (m *model) use(t api.Tile) {
	if i := slices.Index(m.hand, t); i >= 0 {
		m.stats.Hits++
		m.hand = slices.Delete(m.hand, i, i+1)
	} else {
		m.stats.Loads++
		if len(m.hand) == m.most {
			m.stats.Drops++
			m.hand = slices.Delete(m.hand, 0, 1)
		}
	}
	m.hand = append(m.hand, t)
	m.stats.Most = max(m.stats.Most, len(m.hand))
}

func (m *model) read(t api.Tile) {
	m.use(t)
	if !slices.Contains(m.seen, t) {
		m.seen = append(m.seen, t)
	}
}

// alike checks all that may be asked without changing anything.
func alike(t *testing.T, c *cache.Cache, m model, asked ...api.Tile) {
	t.Helper()
	if c.Len() != len(m.hand) || c.Stats() != m.stats {
		t.Fatalf("%d at hand, %v, not %d, %v", c.Len(), c.Stats(), len(m.hand), m.stats)
	}
	if all := c.All(); !slices.Equal(all, m.hand) {
		t.Fatalf("All: %v, not %v", all, m.hand)
	}
	if seen := c.Seen(); !slices.Equal(seen, m.seen) {
		t.Fatalf("Seen: %v, not %v", seen, m.seen)
	}
	for _, tile := range asked {
		if c.Has(tile) != slices.Contains(m.hand, tile) {
			t.Fatalf("Has(%v) of %v: %v", tile, m.hand, c.Has(tile))
		}
	}
}

// part is a tile's pixels.
func part(t *testing.T, l []api.Image, s *store.Store, tile api.Tile) api.Image {
	t.Helper()
	r, is := s.Place(tile)
	m, e := img.Crop(l[tile.Level], r)
	if !is || e != api.OK {
		t.Fatal(tile, r, e)
	}
	return m
}

func TestP42_1_New(t *testing.T) {
	s := stored(t, []api.Image{some(9, 7, 1)}, 2, 2)
	for _, most := range []int{1, 2, 65535, 65536} {
		alike(t, made(t, s, most), model{}, s.All()...)
	}
	for _, most := range []int{0, -1, 65537, 1 << 32, 1<<32 + 1, math.MinInt, math.MaxInt} {
		if c, e := cache.New(s, most); c != nil || e != api.ErrArg {
			t.Errorf("New(%d): %v %v", most, c, e)
		}
	}
	for _, most := range []int{0, 1, 65536, 65537} {
		if c, e := cache.New(nil, most); c != nil || e != api.ErrArg {
			t.Errorf("New of none, %d: %v %v", most, c, e)
		}
	}
}

func TestP42_1_None(t *testing.T) {
	var none *cache.Cache
	for _, c := range []*cache.Cache{none, {}} {
		for range 2 {
			for _, k := range append(edges, 0, 1) {
				if m, e := c.Get(api.Tile{Level: k}); m.Pix != nil || !img.Same(m, api.Image{}) || e != api.ErrArg {
					t.Errorf("Get of none: %v %v", m, e)
				}
				if m, e := c.Get(api.Tile{I: k}); m.Pix != nil || !img.Same(m, api.Image{}) || e != api.ErrArg {
					t.Errorf("Get of none: %v %v", m, e)
				}
				if b := c.Read(k, 0, 0); len(b) != 0 {
					t.Errorf("Read of none: %v", b)
				}
				if w, h := c.Size(k); w != 0 || h != 0 {
					t.Errorf("Size of none: %d %d", w, h)
				}
			}
			c.Mark()
			alike(t, c, model{}, api.Tile{}, api.Tile{Level: -1}, api.Tile{I: 1})
			if c.Levels() != 0 || c.Channels() != 0 {
				t.Errorf("of none: %d %d", c.Levels(), c.Channels())
			}
		}
	}
	c := made(t, &store.Store{}, 1) // a store without images
	if m, e := c.Get(api.Tile{}); m.Pix != nil || e != api.ErrRange || c.Read(0, 0, 0) != nil {
		t.Error(m, e)
	}
	alike(t, c, model{}, api.Tile{})
}

func TestP42_2_ByHand(t *testing.T) {
	s := stored(t, []api.Image{some(4, 2, 1)}, 2, 2)
	a, b := api.Tile{}, api.Tile{I: 1}
	c := made(t, s, 1)
	for i, tile := range []api.Tile{a, b, a} {
		if m, e := c.Get(tile); !img.Same(m, part(t, []api.Image{some(4, 2, 1)}, s, tile)) || e != api.OK {
			t.Error(i, m, e)
		}
		alike(t, c, model{hand: []api.Tile{tile}, stats: cache.Stats{Loads: i + 1, Drops: i, Most: 1}}, a, b)
	}
	c.Get(a) // the same tile twice
	alike(t, c, model{hand: []api.Tile{a}, stats: cache.Stats{Hits: 1, Loads: 3, Drops: 2, Most: 1}}, a, b)
	if p := c.Read(0, 1, 1); !bytes.Equal(p, some(4, 2, 1).Pix[5:6]) {
		t.Error(p)
	}
	alike(t, c, model{hand: []api.Tile{a}, stats: cache.Stats{Hits: 2, Loads: 3, Drops: 2, Most: 1}, seen: []api.Tile{a}}, a, b)
	if s.Fetched() != 3 {
		t.Error(s.Fetched())
	}
}

// Whatever is done, in whichever order, with however few tiles at hand.
func TestP42_2_Any(t *testing.T) {
	x := uint64(1)
	for _, l := range pyramids(t) {
		for _, z := range tiles {
			for _, most := range []int{1, 2, 3, 7, 65536} {
				s := stored(t, l, z[0], z[1])
				c, m := made(t, s, most), model{most: most}
				all := s.All()
				for range 150 {
					tile := all[next(&x, len(all))]
					switch r, _ := s.Place(tile); next(&x, 12) {
					case 0:
						c.Mark()
						m.seen = nil
					case 1, 2, 3:
						got, e := c.Get(tile)
						m.use(tile)
						if want := part(t, l, s, tile); !img.Same(got, want) || e != api.OK {
							t.Fatalf("Get(%v): %v %v, not %v", tile, got, e, want)
						}
						clear(got.Pix[:cap(got.Pix)]) // its bytes are its own
					default:
						i, k := next(&x, r.X1-r.X0), next(&x, r.Y1-r.Y0)
						got := c.Read(tile.Level, r.X0+i, r.Y0+k)
						m.read(tile)
						from := l[tile.Level]
						if want := from.Pix[((r.Y0+k)*from.W+r.X0+i)*from.C:][:from.C]; !bytes.Equal(got, want) {
							t.Fatalf("Read(%d, %d, %d): %v, not %v", tile.Level, r.X0+i, r.Y0+k, got, want)
						}
						clear(got[:cap(got)])
					}
					alike(t, c, m, tile, all[0], all[len(all)-1])
					if c.Len() > most || c.Stats().Most > most || s.Fetched() != m.stats.Loads {
						t.Fatalf("%d at hand, %v, fetched %d", c.Len(), c.Stats(), s.Fetched())
					}
				}
			}
		}
	}
}

// Where there is no such tile, or pixel, nothing is used.
func TestP42_2_Wrong(t *testing.T) {
	for _, l := range pyramids(t) {
		s := stored(t, l, 2, 3)
		c, m := made(t, s, 2), model{most: 2}
		for _, tile := range s.All()[:min(len(s.All()), 3)] {
			c.Get(tile)
			m.use(tile)
		}
		c.Read(0, 0, 0)
		m.read(api.Tile{})
		for _, k := range append(edges, 0, 1, len(l)-1, len(l), len(l)+1) {
			w, h := s.Size(k)
			for _, i := range append(edges, 0, s.Tiles(k), s.Tiles(k)+1) {
				if _, is := s.Place(api.Tile{Level: k, I: i}); is {
					continue
				}
				if got, e := c.Get(api.Tile{Level: k, I: i}); got.Pix != nil || !img.Same(got, api.Image{}) || e != api.ErrRange {
					t.Fatalf("Get of %d, %d: %v %v", k, i, got, e)
				}
				if c.Has(api.Tile{Level: k, I: i}) {
					t.Fatalf("Has of %d, %d", k, i)
				}
			}
			for _, i := range append(edges, w, w+1, -w) {
				for _, j := range append(edges, 0, h) {
					if _, is := s.Tile(k, i, j); is {
						continue
					}
					if b := append(append(c.Read(k, i, j), c.Read(k, -1, h-1)...), c.Read(k, w-1, h)...); len(b) != 0 {
						t.Fatalf("Read(%d, %d, %d): %v", k, i, j, b)
					}
				}
			}
		}
		alike(t, c, m, s.All()...)
	}
}

func TestP42_3_Told(t *testing.T) {
	for _, l := range pyramids(t) {
		s := stored(t, l, 3, 2)
		c := made(t, s, 1)
		if c.Levels() != s.Levels() || c.Channels() != s.Channels() || c.Channels() != l[0].C {
			t.Errorf("%d images of %d channels", c.Levels(), c.Channels())
		}
		for _, k := range append(edges, 0, 1, 2, len(l)-1, len(l)) {
			w, h := c.Size(k)
			if i, j := s.Size(k); w != i || h != j {
				t.Errorf("Size(%d): %d %d, not %d %d", k, w, h, i, j)
			}
		}
		alike(t, c, model{}, s.All()...)
	}
}

func TestP42_3_Seen(t *testing.T) {
	s := stored(t, []api.Image{some(6, 4, 3), some(3, 2, 3)}, 2, 2)
	c := made(t, s, 2)
	c.Get(api.Tile{I: 5}) // what is got isn't read
	for i, r := range [][3]int{{0, 5, 3}, {0, 0, 0}, {0, 4, 2}, {1, 2, 1}, {0, 1, 1}, {0, 9, 9}, {1, 0, 0}} {
		c.Read(r[0], r[1], r[2])
		want := []api.Tile{{I: 5}, {I: 0}, {Level: 1, I: 1}, {Level: 1, I: 0}}[:[]int{1, 2, 2, 3, 3, 3, 4}[i]]
		if l := c.Seen(); !slices.Equal(l, want) {
			t.Errorf("Seen: %v, not %v", l, want)
		}
		clear(c.Seen())
	}
	at, stats := c.All(), c.Stats()
	c.Mark()
	if len(c.Seen()) != 0 || !slices.Equal(c.All(), at) || c.Stats() != stats {
		t.Error(c.Seen(), c.All(), c.Stats())
	}
	c.Read(1, 0, 0)
	c.Read(0, 5, 3)
	if l := c.Seen(); !slices.Equal(l, []api.Tile{{Level: 1, I: 0}, {I: 5}}) {
		t.Errorf("Seen: %v", l)
	}
	c.Mark()
	c.Mark()
	if len(c.Seen()) != 0 {
		t.Error(c.Seen())
	}
}

// A cache is a source: what a kernel tells of it is what it tells of the images.
func TestP42_4_Source(t *testing.T) {
	x := uint64(5)
	for _, l := range pyramids(t) {
		src, e := sample.Of(l)
		if e != api.OK {
			t.Fatal(e)
		}
		for _, most := range []int{1, 3} {
			c := made(t, stored(t, l, 2, 2), most)
			for kernel := api.Near; kernel <= api.Super; kernel++ {
				for mode := api.Const; mode <= api.Mirror; mode++ {
					b := api.Border{Mode: mode, Color: [4]byte{9, 8, 7, 6}}
					one, e := sample.New(src, kernel, 2, b)
					other, code := sample.New(c, kernel, 2, b)
					if e != api.OK || code != api.OK {
						t.Fatal(e, code)
					}
					for range 20 {
						k, u, v := next(&x, len(l)), int64(next(&x, 20*65536)-5*65536), int64(next(&x, 20*65536)-5*65536)
						want, e := one.At(k, u, v)
						if got, code := other.At(k, u, v); !bytes.Equal(got, want) || e != api.OK || code != api.OK {
							t.Fatalf("At(%d, %d, %d): %v %v, not %v %v", k, u, v, got, code, want, e)
						}
					}
				}
			}
			if c.Len() > most || c.Stats().Most > most {
				t.Errorf("%d at hand, %v", c.Len(), c.Stats())
			}
		}
	}
}

func TestP42_4_AllPixels(t *testing.T) {
	for _, l := range pyramids(t) {
		for _, z := range tiles {
			c := made(t, stored(t, l, z[0], z[1]), 2)
			for k, m := range l {
				for i := range m.W * m.H {
					at := i * 7 % (m.W * m.H) // not one beside the other
					if got, want := c.Read(k, at%m.W, at/m.W), m.Pix[at*m.C:][:m.C]; !bytes.Equal(got, want) {
						t.Fatalf("Read(%d, %d, %d): %v, not %v", k, at%m.W, at/m.W, got, want)
					}
				}
			}
		}
	}
}

// As many tiles as may be at hand.
func TestP42_4_Many(t *testing.T) {
	l := []api.Image{some(300, 260, 1), some(100, 100, 1)}
	s := stored(t, l, 1, 1)
	c, m := made(t, s, 65536), model{most: 65536}
	for n, tile := range s.All() {
		if _, e := c.Get(tile); e != api.OK {
			t.Fatal(tile, e)
		}
		m.stats = cache.Stats{Loads: n + 1, Drops: max(n+1-65536, 0), Most: min(n+1, 65536)}
	}
	m.hand = s.All()[88000-65536:]
	alike(t, c, m, s.All()[0], s.All()[87999], s.All()[88000-65536], s.All()[88000-65537])
}

// An image of as many tiles as there may be, and another one behind it.
func TestP42_4_Great(t *testing.T) {
	l := []api.Image{some(2048, 2048, 1), some(2, 1, 1)}
	c, m := made(t, stored(t, l, 1, 1), 3), model{most: 3}
	for _, tile := range []api.Tile{{I: 2048*2048 - 1}, {Level: 1, I: 0}, {I: 0}, {I: 2048*2048 - 1}, {Level: 1, I: 1}, {Level: 1, I: 0}, {I: 2048*2048 - 2}} {
		if got, e := c.Get(tile); e != api.OK || !bytes.Equal(got.Pix, l[tile.Level].Pix[tile.I:tile.I+1]) {
			t.Fatalf("Get(%v): %v %v", tile, got, e)
		}
		m.use(tile)
		alike(t, c, m, tile)
	}
}

// P1 and P2: the same calls tell the same, whatever another cache of the same store is asked.
func TestP1_P2_TheSameAgain(t *testing.T) {
	l := pyramids(t)
	s := stored(t, l[4], 3, 4)
	told := func(other int) []string {
		var all []string
		c, beside, x := made(t, s, 4), made(t, s, other), uint64(6)
		for i := range 3000 {
			tile := api.Tile{Level: next(&x, 6) - 1, I: next(&x, 14) - 1}
			beside.Read(i%4, i%12, i%10)
			switch next(&x, 5) {
			case 0:
				c.Mark()
			case 1:
				all = append(all, fmt.Sprintln(c.Get(tile)))
			default:
				all = append(all, fmt.Sprint(c.Read(next(&x, 6)-1, next(&x, 14)-1, next(&x, 12)-1)))
			}
			all = append(all, fmt.Sprint(c.Has(tile), c.Len(), c.All(), c.Stats(), c.Seen()))
		}
		return all
	}
	if !slices.Equal(told(1), told(7)) {
		t.Error("it changes")
	}
}
