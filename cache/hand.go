package cache

import (
	"bytes"

	"anamorph/api"
)

// held is a tile that is at hand, and its places.
type held struct {
	image api.Image
	place api.Rect
}

// pixel is the pixel that stands at one of its places.
func (h held) pixel(x, y int) []byte {
	m := h.image
	at := ((y-h.place.Y0)*m.W + x - h.place.X0) * m.C
	return bytes.Clone(m.Pix[at : at+m.C])
}

// use has a tile be at hand, and be the one that was used last; false: there is none such.
func (c *Cache) use(t api.Tile) (held, bool) {
	h, is := c.hand[t]
	if is {
		c.stats.Hits++
	} else if h, is = c.load(t); !is {
		return held{}, false
	}
	c.ages.Touch(number(t))
	return h, true
}

// load fetches a tile; false: there is none such.
func (c *Cache) load(t api.Tile) (held, bool) {
	place, is := c.store.Place(t)
	if !is {
		return held{}, false
	}
	if len(c.hand) == c.most {
		c.drop()
	}
	m, _ := c.store.Fetch(t)
	h := held{m, place}
	c.hand[t] = h
	c.stats.Loads++
	c.stats.Most = max(c.stats.Most, len(c.hand))
	return h, true
}

// drop has the tile that was used longest ago be at hand no more.
func (c *Cache) drop() {
	k, _ := c.ages.Pop()
	delete(c.hand, tile(k))
	c.stats.Drops++
}

// number is a tile's number among those of all images: none has more tiles than pixels.
func number(t api.Tile) int { return t.Level*api.MaxPix + t.I }

// tile is the tile of a number.
func tile(k int) api.Tile { return api.Tile{Level: k / api.MaxPix, I: k % api.MaxPix} }
