package store_test

import (
	"bytes"
	"fmt"
	"math"
	"slices"
	"testing"

	"anamorph/api"
	"anamorph/grid"
	"anamorph/img"
	"anamorph/mip"
	"anamorph/sample"
	"anamorph/store"
)

// edges are numbers of no image, tile, column or row.
var edges = []int{math.MinInt, math.MinInt + 1, -1 << 32, -2, -1, 99, 1 << 30, 1 << 32, math.MaxInt - 1, math.MaxInt}

// some is an image whose bytes differ.
func some(w, h, c int) api.Image {
	m := api.Image{W: w, H: h, C: c}
	for i := range w * h * c {
		m.Pix = append(m.Pix, byte(i*i*7+i*61+3))
	}
	return m
}

// clones are the same images, in memory of their own.
func clones(l []api.Image) []api.Image {
	own := slices.Clone(l)
	for k := range own {
		own[k].Pix = bytes.Clone(own[k].Pix)
	}
	return own
}

// alike tells whether two lists have the same images.
func alike(l, r []api.Image) bool { return slices.EqualFunc(l, r, img.Same) }

// pyramids are such of images of one pixel, one row, one column, and others; two are none, but images all the same.
func pyramids(t *testing.T) [][]api.Image {
	t.Helper()
	var l [][]api.Image
	for _, s := range [][3]int{{1, 1, 1}, {7, 1, 3}, {1, 5, 4}, {4, 4, 1}, {9, 6, 1}, {12, 10, 4}} {
		p, e := mip.Pyramid(some(s[0], s[1], s[2]), 15)
		if e != api.OK {
			t.Fatal(e)
		}
		l = append(l, p)
	}
	return append(l, []api.Image{some(3, 2, 3)}, []api.Image{some(2, 2, 1), some(5, 3, 1), some(1, 7, 1)}, slices.Repeat([]api.Image{some(2, 3, 1)}, 70))
}

// tiles are how large tiles are: of one pixel, as large as the image or larger, and others.
var tiles = [][2]int{{1, 1}, {2, 2}, {3, 1}, {1, 4}, {5, 3}, {12, 10}, {4096, 4096}, {1, 4096}}

// made is a store.
func made(t *testing.T, l []api.Image, tw, th int) *store.Store {
	t.Helper()
	s, e := store.New(l, tw, th)
	if s == nil || e != api.OK {
		t.Fatalf("New(%d images, %d, %d): %v", len(l), tw, th, e)
	}
	return s
}

// each calls do for stores of all images, and all tiles.
func each(t *testing.T, do func(l []api.Image, tw, th int, s *store.Store)) {
	t.Helper()
	for _, l := range pyramids(t) {
		for _, z := range tiles {
			do(l, z[0], z[1], made(t, l, z[0], z[1]))
		}
	}
}

// cut is how an image is cut into tiles.
func cut(l []api.Image, k, tw, th int) grid.Grid {
	if k < 0 || k >= len(l) {
		return grid.Grid{}
	}
	return grid.Grid{W: l[k].W, H: l[k].H, TW: tw, TH: th}
}

func TestP41_1_Told(t *testing.T) {
	each(t, func(l []api.Image, tw, th int, s *store.Store) {
		src, e := sample.Of(l)
		if e != api.OK {
			t.Fatal(e)
		}
		if s.Levels() != src.Levels() || s.Levels() != len(l) || s.Channels() != src.Channels() {
			t.Errorf("%d images of %d channels", s.Levels(), s.Channels())
		}
		var all []api.Tile
		for k := range l {
			for i := range grid.Count(cut(l, k, tw, th)) {
				all = append(all, api.Tile{Level: k, I: i})
			}
		}
		if got := s.All(); !slices.Equal(got, all) {
			t.Errorf("All: %v, not %v", got, all)
		}
		for _, k := range append(edges, 0, 1, 2, len(l)-1, len(l)) {
			w, h := s.Size(k)
			if i, j := src.Size(k); w != i || h != j {
				t.Errorf("Size(%d): %d %d, not %d %d", k, w, h, i, j)
			}
			if n, want := s.Tiles(k), grid.Count(cut(l, k, tw, th)); n != want {
				t.Errorf("Tiles(%d): %d, not %d", k, n, want)
			}
		}
		if s.Fetched() != 0 {
			t.Errorf("Fetched: %d, ahead of all", s.Fetched())
		}
	})
}

func TestP41_1_ByHand(t *testing.T) {
	s := made(t, []api.Image{some(3, 3, 1)}, 2, 2)
	if s.Tiles(0) != 4 || s.Tiles(1) != 0 || s.Tiles(-1) != 0 || len(s.All()) != 4 {
		t.Error(s.Tiles(0), s.Tiles(1), s.All())
	}
	if r, is := s.Place(api.Tile{I: 3}); r != (api.Rect{X0: 2, Y0: 2, X1: 3, Y1: 3}) || !is {
		t.Error(r, is)
	}
	if x, is := s.Tile(0, 2, 1); x != (api.Tile{I: 1}) || !is {
		t.Error(x, is)
	}
	if m, e := s.Fetch(api.Tile{I: 2}); e != api.OK || !img.Same(m, api.Image{W: 2, H: 1, C: 1, Pix: some(3, 3, 1).Pix[6:8]}) || s.Fetched() != 1 {
		t.Error(m, e)
	}
}

func TestP41_1_Wrong(t *testing.T) {
	refused := func(l []api.Image, tw, th int, want api.Errno) {
		t.Helper()
		if s, e := store.New(l, tw, th); s != nil || e != want {
			t.Errorf("New(%d images, %d, %d): %v %v, not %v", len(l), tw, th, s, e, want)
		}
	}
	bad := []int{0, -1, 4097, 1 << 32, 1<<32 + 1, math.MinInt, math.MaxInt}
	right, short, great := some(2, 2, 1), some(3, 2, 1), some(1, 1, 1)
	short.Pix = short.Pix[1:]
	great.W = 32769
	for _, z := range append(bad, 1, 4096) {
		refused(nil, z, z, api.ErrNone)
		refused([]api.Image{}, 1, z, api.ErrNone)
		refused([]api.Image{{}}, z, 1, api.ErrArg)
		refused([]api.Image{short}, z, 1, api.ErrSize)
		refused([]api.Image{right, short}, z, z, api.ErrSize)
		refused([]api.Image{right, great, short}, 1, z, api.ErrLimit)
		refused([]api.Image{right, some(2, 2, 3), short}, z, 1, api.ErrArg)
		refused([]api.Image{right, {W: 1, H: 1, C: 2, Pix: []byte{1, 2}}}, z, 1, api.ErrArg)
	}
	for _, z := range bad {
		refused([]api.Image{right}, z, 1, api.ErrArg)
		refused([]api.Image{right}, 1, z, api.ErrArg)
		refused([]api.Image{right, right}, z, 4096, api.ErrArg)
		refused([]api.Image{right}, z, z, api.ErrArg)
	}
}

func TestP41_None(t *testing.T) {
	var none *store.Store
	for _, s := range []*store.Store{none, {}} { // what nobody made has no images, either
		for _, k := range append(edges, 0, 1) {
			if w, h := s.Size(k); w != 0 || h != 0 || s.Tiles(k) != 0 {
				t.Errorf("image %d of none: %d %d, %d tiles", k, w, h, s.Tiles(k))
			}
			if r, is := s.Place(api.Tile{Level: k}); r != (api.Rect{}) || is {
				t.Errorf("Place of none: %v %v", r, is)
			}
			if x, is := s.Tile(k, 0, 0); x != (api.Tile{}) || is {
				t.Errorf("Tile of none: %v %v", x, is)
			}
			if m, e := s.Fetch(api.Tile{Level: k}); e == api.OK || m.Pix != nil || !img.Same(m, api.Image{}) {
				t.Errorf("Fetch of none: %v %v", m, e)
			}
		}
		if s.Levels() != 0 || s.Channels() != 0 || s.Fetched() != 0 || len(s.All()) != 0 {
			t.Errorf("of none: %d %d %d %v", s.Levels(), s.Channels(), s.Fetched(), s.All())
		}
	}
	if _, e := none.Fetch(api.Tile{}); e != api.ErrArg {
		t.Errorf("Fetch of none: %v", e)
	}
}

func TestP41_2_Place(t *testing.T) {
	each(t, func(l []api.Image, tw, th int, s *store.Store) {
		for _, k := range append(edges, 0, 1, 2, len(l)-1, len(l)) {
			g := cut(l, k, tw, th)
			for _, i := range append(edges, 0, 1, 2, 5, 30, grid.Count(g)-1, grid.Count(g), grid.Count(g)+1) {
				want, has := grid.Tile(g, i)
				if r, is := s.Place(api.Tile{Level: k, I: i}); r != want || is != has {
					t.Fatalf("Place of %d, %d: %v %v, not %v %v", k, i, r, is, want, has)
				}
			}
		}
	})
}

func TestP41_2_Tile(t *testing.T) {
	each(t, func(l []api.Image, tw, th int, s *store.Store) {
		for _, k := range append(edges, 0, 1, len(l)-1, len(l)) {
			w, h := s.Size(k)
			for _, x := range append(edges, 0, 1, 2, 4, w-1, w) {
				for _, y := range append(edges, 0, 1, 3, h-1, h) {
					var want api.Tile
					i, has := grid.Of(cut(l, k, tw, th), x, y)
					if has {
						want = api.Tile{Level: k, I: i}
					}
					if tile, is := s.Tile(k, x, y); tile != want || is != has {
						t.Fatalf("Tile(%d, %d, %d): %v %v, not %v %v", k, x, y, tile, is, want, has)
					}
				}
			}
		}
	})
}

func TestP41_3_Fetch(t *testing.T) {
	each(t, func(l []api.Image, tw, th int, s *store.Store) {
		n := 0
		for range 2 { // again: that bytes were written into changes nothing
			for _, tile := range s.All() {
				r, _ := s.Place(tile)
				want, e := img.Crop(l[tile.Level], r)
				if e != api.OK {
					t.Fatal(e)
				}
				m, e := s.Fetch(tile)
				n++
				if !img.Same(m, want) || e != api.OK || s.Fetched() != n {
					t.Fatalf("Fetch(%v): %v %v, not %v; %d times", tile, m, e, want, s.Fetched())
				}
				clear(m.Pix[:cap(m.Pix)])
			}
		}
		for _, k := range append(edges, 0, len(l)-1, len(l)) {
			for _, i := range append(edges, s.Tiles(k), s.Tiles(k)+1) {
				if 0 <= i && i < s.Tiles(k) {
					continue
				}
				if m, e := s.Fetch(api.Tile{Level: k, I: i}); m.Pix != nil || !img.Same(m, api.Image{}) || e != api.ErrRange || s.Fetched() != n {
					t.Fatalf("Fetch of %d, %d: %v %v, %d times", k, i, m, e, s.Fetched())
				}
			}
		}
	})
}

func TestP41_4_Again(t *testing.T) {
	each(t, func(l []api.Image, tw, th int, s *store.Store) {
		var again []api.Image
		for k := range s.Levels() {
			w, h := s.Size(k)
			m, e := img.New(w, h, s.Channels())
			if e != api.OK {
				t.Fatal(e)
			}
			again = append(again, m)
		}
		for _, tile := range s.All() {
			r, is := s.Place(tile)
			m, e := s.Fetch(tile)
			if !is || e != api.OK || img.Paste(&again[tile.Level], m, r.X0, r.Y0) != api.OK {
				t.Fatal(tile, r, is, e)
			}
		}
		if !alike(again, l) {
			t.Errorf("%d images, tiles of %d by %d: they aren't the same again", len(l), tw, th)
		}
	})
}

// Its bytes are its own, and what is handed in stays.
func TestP41_1_Own(t *testing.T) {
	for _, l := range pyramids(t) {
		given := clones(l)
		s := made(t, given, 3, 2)
		if !alike(given, l) {
			t.Fatal("what is handed in has changed")
		}
		for k := range given {
			clear(given[k].Pix)
			given[k].W = 77
		}
		for _, tile := range s.All() {
			r, _ := s.Place(tile)
			want, _ := img.Crop(l[tile.Level], r)
			if m, e := s.Fetch(tile); !img.Same(m, want) || e != api.OK {
				t.Fatalf("Fetch(%v): %v %v, not %v", tile, m, e, want)
			}
		}
	}
}

// P1 and P2: the same calls tell the same, whatever was called between.
func TestP1_P2_TheSameAgain(t *testing.T) {
	l := pyramids(t)
	told := func() []string {
		var all []string
		for i := range 3000 {
			z := tiles[i%len(tiles)]
			s, e := store.New(l[i%len(l)], z[0], z[1])
			if e != api.OK {
				t.Fatal(e)
			}
			tile := api.Tile{Level: i%6 - 1, I: i%31 - 1}
			m, code := s.Fetch(tile)
			r, is := s.Place(tile)
			x, has := s.Tile(i%5-1, i%13-1, i%7-1)
			w, h := s.Size(i % 5)
			all = append(all, fmt.Sprint(m, code, r, is, x, has, w, h, s.Fetched(), s.Tiles(i%4), len(s.All())))
		}
		return all
	}
	if !slices.Equal(told(), told()) {
		t.Error("it changes")
	}
}
