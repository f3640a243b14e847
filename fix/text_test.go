package fix_test

import (
	"math"
	"math/big"
	"regexp"
	"strings"
	"testing"

	"anamorph/fix"
)

// texts are numbers and their Shows.
var texts = []struct {
	x int64
	s string
}{
	{0, "0"}, {1, "0.0000152587890625"}, {-1, "-0.0000152587890625"}, {98304, "1.5"}, {-98304, "-1.5"}, {32768, "0.5"}, {-32768, "-0.5"},
	{one, "1"}, {-one, "-1"}, {10 * one, "10"}, {-100 * one, "-100"}, {one + 1, "1.0000152587890625"}, {one - 1, "0.9999847412109375"}, {1 - one, "-0.9999847412109375"},
	{16384, "0.25"}, {4096, "0.0625"}, {2, "0.000030517578125"}, {1000001 * one, "1000001"},
	{math.MaxInt64, "140737488355327.9999847412109375"}, {math.MinInt64, "-140737488355328"}, {math.MinInt64 + 1, "-140737488355327.9999847412109375"},
	{math.MaxInt64 - 65535, "140737488355327"}, {math.MaxInt64 - 32767, "140737488355327.5"},
}

func TestP4_3_ByHand(t *testing.T) {
	for _, c := range texts {
		if s := fix.Show(c.x); s != c.s {
			t.Errorf("Show(%d): %q, not %q", c.x, s, c.s)
		}
		if x, is := fix.Read(c.s); x != c.x || !is {
			t.Errorf("Read(%q): %d %v, not %d", c.s, x, is, c.x)
		}
	}
}

func TestP4_3_WrongTexts(t *testing.T) {
	for _, s := range []string{
		"", "-", ".", "-.", "+", "+1", "-0", "-0.0", "0.0", "00", "01", "-01", "00.5", "007", "1.", "-1.", ".5", "-.5", "1.0", "1.50", "1.500000", "0.50",
		" 1", "1 ", "1 .5", "\t1", "1\n", "1\x00", "\x001", "1,5", "1.5.", "1..5", "1.2.5", ".1.5", "--1", "-+1", "1-", "1-5", "1.-5", "-1-", "0-1",
		"1e3", "1E3", "0x10", "1_000", "1'000", "one", "NaN", "Inf", "-Inf", "a", "1a", "1.5a", "/", ":", "1/2", "1:", "0./", "0.:",
		"0.1", "0.3", "0.00001", "1.00001", "0.00000762939453125", "0.0000152587890624", "0.0000152587890626", "0.00001525878906250", "0.000015258789062500",
		"140737488355328", "140737488355327.99999237060546875", "-140737488355328.5", "-140737488355328.0000152587890625", "-140737488355329",
		"1407374883553280", "999999999999999", "-999999999999999", "99999999999999999999999999999999", "-99999999999999999999999999999999", "99999999999999999999999999999999.5",
		"281474976710656", "281474976710657", "18446744073709551616", "18446744073709551617.5", "340282366920938463463374607431768211457",
		"0.00000000000000000000000000000000001", "0.5000000000000000000000000000000000", "0.00000000000000000000000000000001",
		"१", "１", "٣", "1٣", "−1", "1．5", "1.٥", "0۔5", "\xff", "1\xff", "\xff1", "1.\x805", "\xc0\xb1", "½", "\u200b1",
	} {
		if x, is := fix.Read(s); x != 0 || is {
			t.Errorf("Read(%q): %d %v", s, x, is)
		}
	}
	// However long a text is, it ends.
	for _, s := range []string{"1", "0", "-", ".", "9", "٣", "1.5"} {
		if x, is := fix.Read(strings.Repeat(s, 1<<18)); x != 0 || is {
			t.Errorf("Read of many %q: %d %v", s, x, is)
		}
	}
	for _, s := range []string{"1." + strings.Repeat("0", 1<<18), strings.Repeat("0", 1<<18) + "1", "0.5" + strings.Repeat("0", 40), "-" + strings.Repeat("0", 40)} {
		if x, is := fix.Read(s); x != 0 || is {
			t.Errorf("Read of %d bytes: %d %v", len(s), x, is)
		}
	}
}

var form = regexp.MustCompile(`^-?(0|[1-9][0-9]*)(\.[0-9]*[1-9])?$`)

// read is what Read must tell, by the form alone and by what the digits say.
func read(s string) (int64, bool) {
	if !form.MatchString(s) || s == "-0" {
		return 0, false
	}
	n, _ := new(big.Rat).SetString(s)
	n.Mul(n, big.NewRat(one, 1))
	if !n.IsInt() || !n.Num().IsInt64() {
		return 0, false
	}
	return n.Num().Int64(), true
}

func TestP4_3_EachOtherText(t *testing.T) {
	x := uint64(11)
	for range 3000 {
		x = x*6364136223846793005 + 1442695040888963407
		n := int64(x) >> (x >> 8 % 63)
		s := fix.Show(n)
		want, is := read(s)
		if !is || want != n {
			t.Fatalf("Show(%d): %q", n, s)
		}
		if got, is := fix.Read(s); got != n || !is {
			t.Fatalf("Read(%q): %d %v", s, got, is)
		}
	}
	for _, c := range texts {
		for i := 0; i <= len(c.s); i++ {
			for _, b := range []string{"", "0", "1", "5", "9", ".", "-", "+", " ", "00", "e", "x"} {
				others := []string{c.s[:i] + b + c.s[i:]} // put in
				if i < len(c.s) {
					others = append(others, c.s[:i]+b+c.s[i+1:]) // in the place of another, or taken out
				}
				for _, s := range others {
					want, has := read(s)
					if got, is := fix.Read(s); got != want || is != has {
						t.Fatalf("Read(%q): %d %v, not %d %v", s, got, is, want, has)
					}
				}
			}
		}
	}
}

func TestP4_3_AllParts(t *testing.T) {
	for x := int64(-one - 2); x <= one+2; x++ {
		s := fix.Show(x)
		if want, is := read(s); want != x || !is {
			t.Fatalf("Show(%d): %q", x, s)
		}
		if got, is := fix.Read(s); got != x || !is {
			t.Fatalf("Read(%q): %d %v, not %d", s, got, is, x)
		}
	}
}
