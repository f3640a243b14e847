package cut_test

import (
	"bytes"
	"fmt"
	"math"
	"math/big"
	"regexp"
	"slices"
	"strings"
	"testing"

	"anamorph/api"
	"anamorph/cut"
)

// call is one call of a Cut: what it is of, and what it tells.
type call struct {
	name string
	do   func(c *cut.Cut) (string, api.Errno)
	// want is what it must tell of the bytes that are left, how many of them it cuts off, and the code.
	want func(left string) (string, int, api.Errno)
}

// take is Take(n).
func take(n int) call {
	return call{fmt.Sprintf("Take(%d)", n),
		func(c *cut.Cut) (string, api.Errno) {
			b, e := c.Take(n)
			return string(b), e
		},
		func(left string) (string, int, api.Errno) {
			if n < 0 {
				return "", 0, api.ErrArg
			}
			if len(left) < n {
				return "", 0, api.ErrShort
			}
			return left[:n], n, api.OK
		}}
}

// word is Word(s).
func word(s string) call {
	return call{fmt.Sprintf("Word(%q)", s),
		func(c *cut.Cut) (string, api.Errno) { return "", c.Word(s) },
		func(left string) (string, int, api.Errno) {
			if strings.HasPrefix(left, s) {
				return "", len(s), api.OK
			}
			if strings.HasPrefix(s, left) {
				return "", 0, api.ErrShort
			}
			return "", 0, api.ErrForm
		}}
}

// low is Low(n).
func low(n int) call {
	return call{fmt.Sprintf("Low(%d)", n),
		func(c *cut.Cut) (string, api.Errno) {
			x, e := c.Low(n)
			return fmt.Sprint(x), e
		},
		func(left string) (string, int, api.Errno) {
			if n != 1 && n != 2 && n != 3 && n != 4 {
				return "0", 0, api.ErrArg
			}
			if len(left) < n {
				return "0", 0, api.ErrShort
			}
			digits := []byte(left[:n])
			slices.Reverse(digits)
			return new(big.Int).SetBytes(digits).String(), n, api.OK
		}}
}

// some is a call that cuts off what a form tells, at least one byte.
func some(name string, do func(c *cut.Cut) api.Errno, form string) call {
	r := regexp.MustCompile(form)
	return call{name,
		func(c *cut.Cut) (string, api.Errno) { return "", do(c) },
		func(left string) (string, int, api.Errno) {
			if left == "" {
				return "", 0, api.ErrShort
			}
			n := len(r.FindString(wide(left)))
			if n == 0 {
				return "", 0, api.ErrForm
			}
			return "", n, api.OK
		}}
}

// wide is a text of bytes all of which a regular expression tells apart: bytes above 127 have become 127.
func wide(s string) string {
	b := []byte(s)
	for i := range b {
		b[i] = min(b[i], 127)
	}
	return string(b)
}

func blank() call {
	return some("Blank", (*cut.Cut).Blank, `^([\x09\x0a\x0b\x0c\x0d\x20]|#[^\n]*(\n|\z))+`)
}

func one() call { return some("One", (*cut.Cut).One, `^[\x09\x0a\x0b\x0c\x0d\x20]`) }

var digits = regexp.MustCompile(`^[0-9]*`)

// number is Number(most).
func number(most int) call {
	return call{fmt.Sprintf("Number(%d)", most),
		func(c *cut.Cut) (string, api.Errno) {
			x, e := c.Number(most)
			return fmt.Sprint(x), e
		},
		func(left string) (string, int, api.Errno) {
			if left == "" {
				return "0", 0, api.ErrShort
			}
			s := digits.FindString(wide(left))
			if s == "" || s != "0" && s[0] == '0' {
				return "0", 0, api.ErrForm
			}
			x, _ := new(big.Int).SetString(s, 10)
			if x.Cmp(big.NewInt(int64(most))) > 0 {
				return "0", 0, api.ErrLimit
			}
			return x.String(), len(s), api.OK
		}}
}

// calls are many, with ordinary numbers and words and with wrong ones.
func calls() []call {
	l := []call{blank(), one()}
	for _, n := range []int{math.MinInt, -2, -1, 0, 1, 2, 3, 4, 5, 6, 7, 1 << 32, math.MaxInt} {
		l = append(l, take(n), low(n))
	}
	for _, n := range []int{math.MinInt, -1, 0, 1, 8, 9, 10, 11, 89, 90, 99, 100, 999, 32768, math.MaxInt32, math.MaxInt - 1, math.MaxInt} {
		l = append(l, number(n))
	}
	for _, s := range []string{"", "P", "P5", "P6", " ", "#", "#\n", "1", "19", "\x00", "\xff", "P5 1 1 255 xyz"} {
		l = append(l, word(s))
	}
	return l
}

// holds makes a call of a Cut of which at bytes of all were cut off, and tells how many are then.
func holds(t *testing.T, c *cut.Cut, l call, all string, at int) int {
	t.Helper()
	want, n, code := l.want(all[at:])
	got, e := l.do(c)
	if got != want || e != code || c.At() != at+n || c.Left() != len(all)-at-n {
		t.Fatalf("%s of %q: %q %v, at %d, %d left; not %q %v, at %d", l.name, all[at:], got, e, c.At(), c.Left(), want, code, at+n)
	}
	return at + n
}

// texts are all of up to so many bytes out of some.
func texts(of string, most int) []string {
	l := []string{""}
	for from := 0; most > 0; most-- {
		end := len(l)
		for _, s := range l[from:end] {
			for i := range len(of) {
				l = append(l, s+of[i:i+1])
			}
		}
		from = end
	}
	return l
}

// mixed are numbers that are no pattern: the same ones at each run.
type mixed uint64

func (x *mixed) below(n int) int {
	*x = *x*6364136223846793005 + 1442695040888963407
	return int(uint64(*x>>33) % uint64(n))
}

func TestP14_1_HowFar(t *testing.T) {
	for _, b := range [][]byte{nil, {}, {7}, []byte("12 #x"), make([]byte, 1000)} {
		c := cut.New(b)
		if c == nil || c.At() != 0 || c.Left() != len(b) {
			t.Fatalf("New of %d bytes: %v", len(b), c)
		}
		for n := 0; c.Left() > 0; n++ {
			want := min(n, c.Left())
			if _, e := c.Take(want); e != api.OK {
				t.Fatal(e)
			}
			if c.At()+c.Left() != len(b) {
				t.Fatalf("%d and %d of %d", c.At(), c.Left(), len(b))
			}
		}
		if c.At() != len(b) {
			t.Errorf("%d of %d were cut off", c.At(), len(b))
		}
	}
}

func TestP14_1_OwnCopy(t *testing.T) {
	b := []byte("P5 12 xyz")
	c := cut.New(b)
	copy(b, "?????????")
	if e := c.Word("P5"); e != api.OK {
		t.Error(e)
	}
	if e := c.Blank(); e != api.OK {
		t.Error(e)
	}
	if x, e := c.Number(99); x != 12 || e != api.OK {
		t.Error(x, e)
	}
	if string(b) != "?????????" {
		t.Errorf("what was handed in: %q", b)
	}
	b = []byte("abcdef")
	c, d := cut.New(b), cut.New(b)
	two, _ := c.Take(2)
	_ = append(two, 'X', 'Y', 'Z')
	copy(two, "!!")
	rest, _ := c.Take(4)
	copy(rest, "!!!!")
	if all, e := d.Take(6); string(all) != "abcdef" || e != api.OK || string(b) != "abcdef" || string(two) != "!!" {
		t.Errorf("%q %v, %q, %q", all, e, b, two)
	}
	c = cut.New(b)
	two, _ = c.Take(2)
	_ = append(two, 'X', 'Y', 'Z')
	if rest, _ := c.Take(4); string(rest) != "cdef" {
		t.Errorf("what is left shares memory with what was cut off: %q", rest)
	}
}

// A nil one, and one that nobody made, are as one without bytes, and stay so.
func TestP14_1_Nobody(t *testing.T) {
	var zero cut.Cut
	for i, c := range []*cut.Cut{nil, &zero, {}, cut.New(nil), cut.New([]byte{})} {
		for range 3 {
			if c.At() != 0 || c.Left() != 0 {
				t.Fatalf("the %d. one: at %d, %d left", i, c.At(), c.Left())
			}
			for _, l := range calls() {
				holds(t, c, l, "", 0)
			}
		}
	}
}

// Every call, of all short texts of bytes that matter.
func TestP14_2_P14_3_P14_4_ShortTexts(t *testing.T) {
	for _, s := range texts("P5 #\n019x", 4) {
		for _, l := range calls() {
			holds(t, cut.New([]byte(s)), l, s, 0)
		}
	}
}

// Every call, of each byte, alone and ahead of others.
func TestP14_2_P14_3_P14_4_EachByte(t *testing.T) {
	for v := range 256 {
		for _, more := range []string{"", " ", "0", "5", "#x\n1", "\n\xff\x80\x00"} {
			s := string([]byte{byte(v)}) + more
			for _, l := range calls() {
				holds(t, cut.New([]byte(s)), l, s, 0)
				both := "7 #\xc3\n" + s
				at := holds(t, cut.New([]byte(both)), number(9), both, 0)
				c := cut.New([]byte(both))
				holds(t, c, number(9), both, 0)
				holds(t, c, l, both, at)
			}
		}
	}
}

// Call behind call, of bytes without a pattern.
func TestP14_1_P14_2_P14_3_P14_4_OneBehindTheOther(t *testing.T) {
	const of = "P56 \t\r\n##0123456789xy\x00\xff"
	x, all := mixed(1), calls()
	for range 3000 {
		var s []byte
		for range x.below(60) {
			s = append(s, of[x.below(len(of))])
		}
		c, at := cut.New(s), 0
		for range 40 {
			at = holds(t, c, all[x.below(len(all))], string(s), at)
		}
	}
}

func TestP14_2_Take(t *testing.T) {
	for _, c := range []struct {
		n    int
		want string
		e    api.Errno
		left int
	}{
		{0, "", api.OK, 5}, {1, "a", api.OK, 4}, {4, "abcd", api.OK, 1}, {5, "abcde", api.OK, 0}, {6, "", api.ErrShort, 5},
		{-1, "", api.ErrArg, 5}, {math.MinInt, "", api.ErrArg, 5}, {math.MaxInt, "", api.ErrShort, 5},
	} {
		k := cut.New([]byte("abcde"))
		if b, e := k.Take(c.n); string(b) != c.want || e != c.e || k.Left() != c.left || k.At() != 5-c.left {
			t.Errorf("Take(%d): %q %v, %d left", c.n, b, e, k.Left())
		}
	}
}

func TestP14_2_Word(t *testing.T) {
	for _, c := range []struct {
		s    string
		want api.Errno
		left int
	}{
		{"", api.OK, 3}, {"P", api.OK, 2}, {"P5\n", api.OK, 0}, {"P5\nx", api.ErrShort, 3}, {"P5\n\x00\x00", api.ErrShort, 3},
		{"Q", api.ErrForm, 3}, {"p5", api.ErrForm, 3}, {"P6", api.ErrForm, 3}, {"P5\r", api.ErrForm, 3},
		// another one among those that are left comes ahead of too few
		{"P6\nx", api.ErrForm, 3}, {"Q5\nx", api.ErrForm, 3}, {"P5 xyz", api.ErrForm, 3},
	} {
		k := cut.New([]byte("P5\n"))
		if e := k.Word(c.s); e != c.want || k.Left() != c.left {
			t.Errorf("Word(%q): %v, %d left", c.s, e, k.Left())
		}
	}
}

func TestP14_2_Low(t *testing.T) {
	for _, c := range []struct {
		n    int
		want uint32
		e    api.Errno
	}{
		{1, 0x81, api.OK}, {2, 0x0281, api.OK}, {3, 0x030281, api.OK}, {4, 0xff030281, api.OK}, {0, 0, api.ErrArg}, {5, 0, api.ErrArg}, {-1, 0, api.ErrArg},
	} {
		k := cut.New([]byte{0x81, 2, 3, 0xff, 5})
		if x, e := k.Low(c.n); x != c.want || e != c.e || e != api.OK && k.At() != 0 || e == api.OK && k.At() != c.n {
			t.Errorf("Low(%d): %x %v, at %d", c.n, x, e, k.At())
		}
	}
	for n := 1; n <= 4; n++ {
		k := cut.New(bytes.Repeat([]byte{255}, n-1))
		if x, e := k.Low(n); x != 0 || e != api.ErrShort || k.At() != 0 {
			t.Errorf("Low(%d) of one too few: %d %v", n, x, e)
		}
		k = cut.New(bytes.Repeat([]byte{255}, n))
		if x, e := k.Low(n); uint64(x) != 1<<(8*n)-1 || e != api.OK || k.Left() != 0 {
			t.Errorf("Low(%d) of bytes 255: %d %v", n, x, e)
		}
	}
}

func TestP14_3_Blank(t *testing.T) {
	for _, c := range []struct {
		s    string
		left int
		e    api.Errno
	}{
		{"", 0, api.ErrShort}, {" ", 0, api.OK}, {"\t\n\v\f\r ", 0, api.OK}, {"\x08", 1, api.ErrForm}, {"\x0e", 1, api.ErrForm}, {"x ", 2, api.ErrForm}, {"\x00", 1, api.ErrForm},
		{"\xa0", 1, api.ErrForm}, {"\x85", 1, api.ErrForm}, {"1", 1, api.ErrForm}, {"#", 0, api.OK}, {"#x", 0, api.OK}, {"#x\n", 0, api.OK}, {"#x\ny", 1, api.OK}, {"#x\ry", 0, api.OK},
		{"##\n#\n\n #", 0, api.OK}, {" #1\n 2", 1, api.OK}, {"#1\n#2\n3#4\n", 4, api.OK}, {" x#", 2, api.OK}, {"# \n\"", 1, api.OK}, {"  $", 1, api.OK}, {"#\x00\xff\n\x00", 1, api.OK},
	} {
		k := cut.New([]byte(c.s))
		if e := k.Blank(); e != c.e || k.Left() != c.left {
			t.Errorf("Blank of %q: %v, %d left", c.s, e, k.Left())
		}
	}
}

func TestP14_3_One(t *testing.T) {
	for v := range 256 {
		want := api.ErrForm
		if v == 9 || v == 10 || v == 11 || v == 12 || v == 13 || v == 32 {
			want = api.OK
		}
		for _, more := range []string{"", " ", "  \n", "#", "x"} {
			k := cut.New(append([]byte{byte(v)}, more...))
			e := k.One()
			if e != want || e == api.OK && k.At() != 1 || e != api.OK && k.At() != 0 {
				t.Errorf("One of %d, %q: %v, at %d", v, more, e, k.At())
			}
		}
	}
	if e := cut.New(nil).One(); e != api.ErrShort {
		t.Errorf("One of nothing: %v", e)
	}
}

func TestP14_4_Number(t *testing.T) {
	long := strings.Repeat("9", 5000)
	for _, c := range []struct {
		s    string
		most int
		want int
		e    api.Errno
		at   int
	}{
		{"", 9, 0, api.ErrShort, 0}, {"x", 9, 0, api.ErrForm, 0}, {" 1", 9, 0, api.ErrForm, 0}, {"-1", 9, 0, api.ErrForm, 0}, {"+1", 9, 0, api.ErrForm, 0}, {"/", 9, 0, api.ErrForm, 0}, {":", 9, 0, api.ErrForm, 0},
		{"0", 9, 0, api.OK, 1}, {"0x1", 9, 0, api.OK, 1}, {"0", 0, 0, api.OK, 1}, {"1", 0, 0, api.ErrLimit, 0}, {"0", -1, 0, api.ErrLimit, 0}, {"0", math.MinInt, 0, api.ErrLimit, 0},
		{"00", 9, 0, api.ErrForm, 0}, {"01", 9, 0, api.ErrForm, 0}, {"007", -1, 0, api.ErrForm, 0}, {"0" + long, 9, 0, api.ErrForm, 0}, {"000000000000000000000000", math.MaxInt, 0, api.ErrForm, 0},
		{"12 #x", 99, 12, api.OK, 2}, {"99", 99, 99, api.OK, 2}, {"100", 99, 0, api.ErrLimit, 0}, {"98", 99, 98, api.OK, 2}, {"255", 255, 255, api.OK, 3}, {"256", 255, 0, api.ErrLimit, 0}, {"260", 255, 0, api.ErrLimit, 0},
		{"1_0", 99, 1, api.OK, 1}, {"1.5", 99, 1, api.OK, 1}, {"1e9", 99, 1, api.OK, 1}, {"32768", 32768, 32768, api.OK, 5}, {"32769", 32768, 0, api.ErrLimit, 0}, {"40000", 32768, 0, api.ErrLimit, 0},
		{"9223372036854775807", math.MaxInt, math.MaxInt, api.OK, 19}, {"9223372036854775807", math.MaxInt - 1, 0, api.ErrLimit, 0}, {"9223372036854775808", math.MaxInt, 0, api.ErrLimit, 0},
		{"9223372036854775806", math.MaxInt - 1, math.MaxInt - 1, api.OK, 19}, {"18446744073709551616", math.MaxInt, 0, api.ErrLimit, 0}, {"18446744073709551617", 9, 0, api.ErrLimit, 0},
		{"92233720368547758070", math.MaxInt, 0, api.ErrLimit, 0}, {long, math.MaxInt, 0, api.ErrLimit, 0}, {long, 0, 0, api.ErrLimit, 0}, {"1" + strings.Repeat("0", 5000), 100, 0, api.ErrLimit, 0},
		{"\xb2", 9, 0, api.ErrForm, 0}, {"\u0663", 9, 0, api.ErrForm, 0},
	} {
		k := cut.New([]byte(c.s))
		if x, e := k.Number(c.most); x != c.want || e != c.e || k.At() != c.at || k.Left() != len(c.s)-c.at {
			t.Errorf("Number(%d) of %.40q: %d %v, at %d", c.most, c.s, x, e, k.At())
		}
	}
	for most := -3; most <= 300; most++ {
		for n := range 400 {
			s := fmt.Sprint(n)
			holds(t, cut.New([]byte(s)), number(most), s, 0)
		}
	}
}

func TestP14_4_Example(t *testing.T) {
	c := cut.New([]byte("12 #x"))
	if x, e := c.Number(99); x != 12 || e != api.OK || c.At() != 2 || c.Left() != 3 {
		t.Error(x, e)
	}
	if e := c.Blank(); e != api.OK || c.Left() != 0 || c.At() != 5 {
		t.Error(e)
	}
}

// P1 and P2: all end at all edges, and tell the same again, whatever was called between.
func TestP1_P2_TheSameAgain(t *testing.T) {
	all := append(texts("P5 #0", 3), "1 2\n", "255", "\xff\xff\xff\xff")
	l := calls()
	var first []string
	told := func(i int) string {
		var c *cut.Cut
		if i%7 > 0 {
			c = cut.New([]byte(all[i%len(all)]))
		}
		var s string
		for k := range 5 {
			got, e := l[(i*3+k*11)%len(l)].do(c)
			s += fmt.Sprint(got, e, c.At(), c.Left())
		}
		return s
	}
	for i := range 4000 {
		first = append(first, told(i))
	}
	for i := len(first) - 1; i >= 0; i-- {
		if again := told(i); again != first[i] {
			t.Fatalf("%d: %s, then %s", i, first[i], again)
		}
	}
}
