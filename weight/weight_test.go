package weight_test

import (
	"fmt"
	"math"
	"math/big"
	"slices"
	"testing"

	"anamorph/api"
	"anamorph/weight"
)

// edges are numbers at the ends of an int64.
var edges = []int64{math.MinInt64, math.MinInt64 + 1, -1 << 62, -1 << 32, 1 << 32, 1 << 62, math.MaxInt64 - 1, math.MaxInt64}

// product is numbers, multiplied.
func product(l ...int64) *big.Int {
	p := big.NewInt(1)
	for _, x := range l {
		p.Mul(p, big.NewInt(x))
	}
	return p
}

// sum is numbers, added up.
func sum(l ...*big.Int) *big.Int {
	s := new(big.Int)
	for _, x := range l {
		s.Add(s, x)
	}
	return s
}

// nearest is a quotient by a divisor above 0, rounded to the nearer number, of two the greater one.
func nearest(a, b *big.Int) *big.Int {
	n := new(big.Int).Lsh(a, 1)
	n.Add(n, b)
	return n.Div(n, new(big.Int).Lsh(b, 1)) // of a divisor above 0 Div rounds down
}

// curve is how much four pixels count, by the numbers of the document.
func curve(t int64) [4]int64 {
	const s = 256
	l := []*big.Int{
		sum(product(-1, t, t, t), product(2, s, t, t), product(-1, s, s, t)),
		sum(product(3, t, t, t), product(-5, s, t, t), product(2, s, s, s)),
		sum(product(-3, t, t, t), product(4, s, t, t), product(s, s, t)),
		sum(product(t, t, t), product(-1, s, t, t)),
	}
	var w [4]int64
	for i, x := range l {
		w[i] = x.Int64()
	}
	return w
}

func TestP27_1_Linear(t *testing.T) {
	for f := int64(-3); f <= 65536+3; f++ {
		want, code := [2]int64{65536 - f, f}, api.OK
		if f < 0 || f > 65536 {
			want, code = [2]int64{}, api.ErrRange
		}
		if w, e := weight.Linear(f); w != want || e != code {
			t.Fatalf("Linear(%d): %v %v, not %v %v", f, w, e, want, code)
		}
	}
	for _, f := range edges {
		if w, e := weight.Linear(f); w != [2]int64{} || e != api.ErrRange {
			t.Errorf("Linear(%d): %v %v", f, w, e)
		}
	}
	if w, e := weight.Linear(16384); w != [2]int64{49152, 16384} || e != api.OK {
		t.Errorf("the document's: %v %v", w, e)
	}
}

func TestP27_1_Cubic(t *testing.T) {
	for f := int64(-300); f <= 600; f++ {
		want, code := curve(f), api.OK
		if f < 0 || f > 256 {
			want, code = [4]int64{}, api.ErrRange
		}
		if w, e := weight.Cubic(f); w != want || e != code {
			t.Errorf("Cubic(%d): %v %v, not %v %v", f, w, e, want, code)
		}
	}
	for _, f := range edges {
		if w, e := weight.Cubic(f); w != [4]int64{} || e != api.ErrRange {
			t.Errorf("Cubic(%d): %v %v", f, w, e)
		}
	}
}

func TestP27_1_CubicByHand(t *testing.T) {
	if weight.Scale != 33554432 {
		t.Fatal(weight.Scale)
	}
	for _, c := range []struct {
		t    int64
		want [4]int64
	}{
		{0, [4]int64{0, 33554432, 0, 0}},
		{128, [4]int64{-2097152, 18874368, 18874368, -2097152}},
		{64, [4]int64{-2359296, 29097984, 7602176, -786432}},
		{256, [4]int64{0, 0, 33554432, 0}},
	} {
		if w, e := weight.Cubic(c.t); w != c.want || e != api.OK {
			t.Errorf("Cubic(%d): %v %v, not %v", c.t, w, e, c.want)
		}
	}
}

func TestP27_1_Table(t *testing.T) {
	l := weight.Table()
	if len(l) != 256 {
		t.Fatalf("%d of them", len(l))
	}
	for f, w := range l {
		if w != curve(int64(f)) {
			t.Errorf("%d: %v", f, w)
		}
	}
	clear(l)
	_ = append(l[:10], [4]int64{1, 2, 3, 4})
	for f, w := range weight.Table() {
		if w != curve(int64(f)) {
			t.Errorf("%d, later: %v", f, w)
		}
	}
}

func TestP27_2_Mix(t *testing.T) {
	const most = 1 << 48
	many, low, all, bytes := make([]int64, 64), make([]int64, 64), make([]int64, 64), make([]byte, 64)
	for i := range 64 {
		many[i], low[i], bytes[i] = most, -most, 255
		all[i] = int64(i*i*i)*1234567 - 99999999999
	}
	for _, w := range [][]int64{nil, {}, {1}, {-1}, {most}, {1, 2, 3}, {3, -5, 7, -9}, {49152, 16384}, many, low, all, all[:63], all[5:9]} {
		for _, v := range [][]byte{nil, {}, {0}, {7}, {255}, {1, 2}, {255, 255, 255, 255}, {9, 0, 128, 200, 11}, bytes, bytes[:63], append(slices.Clone(bytes), bytes...)} {
			want := new(big.Int)
			for i := 0; i < len(w) && i < len(v); i++ {
				want = sum(want, product(w[i], int64(v[i])))
			}
			before, ahead := slices.Clone(w), slices.Clone(v)
			if got := weight.Mix(w, v); got != want.Int64() || !want.IsInt64() {
				t.Errorf("Mix(%v, %v): %d, not %v", w, v, got, want)
			}
			if !slices.Equal(w, before) || !slices.Equal(v, ahead) {
				t.Fatalf("%v, %v are now %v, %v", before, ahead, w, v)
			}
		}
	}
	if got := weight.Mix([]int64{2, -3, 5}, []byte{10, 100}); got != -280 {
		t.Errorf("2 and -3 of 10 and 100: %d", got)
	}
}

func TestP27_2_Byte(t *testing.T) {
	scales := append([]int64{-3, -2, -1, 0, 1, 2, 3, 4, 5, 7, 255, 256, 510, 65536, 1 << 25, 1 << 50, 1<<50 - 1, 1 << 55}, edges...)
	for _, scale := range scales {
		sums := append([]int64{-2, -1, 0, 1, 2, 3}, edges...)
		for n := int64(-2); n <= 257; n++ { // at, and beside, each byte and each half
			for _, beside := range []int64{-1, 0, 1} {
				sums = append(sums, n*scale+beside, n*scale+scale/2+beside, n*scale+(scale+1)/2+beside)
			}
		}
		for _, a := range sums {
			want := byte(0)
			if scale > 0 {
				n := nearest(big.NewInt(a), big.NewInt(scale))
				if n.Sign() > 0 {
					want = 255
				}
				if n.Sign() > 0 && n.Cmp(big.NewInt(255)) < 0 {
					want = byte(n.Int64())
				}
			}
			if got := weight.Byte(a, scale); got != want {
				t.Fatalf("Byte(%d, %d): %d, not %d", a, scale, got, want)
			}
		}
	}
	for _, c := range []struct {
		sum, scale int64
		want       byte
	}{{1, 2, 1}, {-1, 2, 0}, {5, 2, 3}, {509, 2, 255}, {511, 2, 255}, {1000, 2, 255}, {7, 0, 0}, {7, -1, 0}, {-7, -1, 0}, {254, 1, 254}, {255, 1, 255}, {256, 1, 255}} {
		if got := weight.Byte(c.sum, c.scale); got != c.want {
			t.Errorf("Byte(%d, %d): %d, not %d", c.sum, c.scale, got, c.want)
		}
	}
}

func TestP27_2_Split(t *testing.T) {
	places := slices.Clone(edges)
	for n := int64(-4); n <= 4; n++ {
		for _, beside := range []int64{-2, -1, 0, 1, 2, 255, 256, 32767, 32768, 32769} {
			places = append(places, n*65536+beside, n<<46+beside)
		}
	}
	for _, u := range places {
		whole, rest := new(big.Int).DivMod(big.NewInt(u), big.NewInt(65536), new(big.Int))
		if k, f := weight.Split(u); k != whole.Int64() || f != rest.Int64() {
			t.Errorf("Split(%d): %d %d, not %v %v", u, k, f, whole, rest)
		}
	}
	if k, f := weight.Split(-1); k != -1 || f != 65535 {
		t.Errorf("Split(-1): %d %d", k, f)
	}
}

func TestP27_3_Together(t *testing.T) {
	for f := int64(0); f <= 65536; f++ {
		if w, e := weight.Linear(f); w[0]+w[1] != 65536 || e != api.OK {
			t.Fatalf("Linear(%d): %v %v", f, w, e)
		}
	}
	for f := int64(0); f <= 256; f++ {
		w, e := weight.Cubic(f)
		back, code := weight.Cubic(256 - f)
		if w[0]+w[1]+w[2]+w[3] != weight.Scale || e != api.OK {
			t.Errorf("Cubic(%d): %v %v", f, w, e)
		}
		if w != [4]int64{back[3], back[2], back[1], back[0]} || code != api.OK {
			t.Errorf("Cubic(%d): %v, and turned round: %v %v", f, w, back, code)
		}
		for b := range 256 {
			four := []byte{byte(b), byte(b), byte(b), byte(b)}
			if got := weight.Byte(weight.Mix(w[:], four), weight.Scale); got != byte(b) {
				t.Fatalf("%d, by Cubic(%d): %d", b, f, got)
			}
		}
	}
	if w, _ := weight.Cubic(0); w != [4]int64{0, weight.Scale, 0, 0} {
		t.Errorf("Cubic(0): %v", w)
	}
}

// P1 and P2: all end at all edges, wrong ones too, and tell the same again, whatever was called between.
func TestP1_P2_TheSameAgain(t *testing.T) {
	places := slices.Clone(edges)
	for n := int64(-5); n < 300; n++ {
		places = append(places, n, n*257, -n*65537)
	}
	told := func(i int) string {
		a, b := places[i%len(places)], places[i*31%len(places)]
		w, e := weight.Linear(a)
		c, code := weight.Cubic(a)
		k, f := weight.Split(a)
		return fmt.Sprint(w, e, c, code, k, f, weight.Byte(a, b), weight.Mix([]int64{a % (1 << 48), 3}, []byte{byte(b), 9}), weight.Table()[i%256])
	}
	var first []string
	for i := range 5000 {
		first = append(first, told(i))
	}
	for i := len(first) - 1; i >= 0; i-- {
		if again := told(i); again != first[i] {
			t.Fatalf("%d: %s, then %s", i, first[i], again)
		}
	}
}
