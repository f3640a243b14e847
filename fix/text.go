package fix

import (
	"strconv"

	"anamorph/api"
	"anamorph/quot"
	"anamorph/wide"
)

const (
	longest = 33                // as long as the Show of -2^63 and 1: no other is longer
	behind  = 10000000000000000 // ten to as many digits as One's parts ever need behind the point
)

// Show is a number as a text, exactly.
func Show(x int64) string {
	sign, n := "", uint64(x)
	if x < 0 {
		sign, n = "-", -n
	}
	return sign + strconv.FormatUint(n/api.One, 10) + fraction(n%api.One)
}

// fraction is parts of One as digits behind a point; nothing, if there are none.
func fraction(parts uint64) string {
	if parts == 0 {
		return ""
	}
	text := []byte{'.'}
	for ; parts > 0; parts = parts * 10 % api.One {
		text = append(text, byte('0'+parts*10/api.One))
	}
	return string(text)
}

// Read is the number that a text is; false: there is none.
func Read(s string) (int64, bool) {
	if len(s) > longest {
		return 0, false
	}
	digits, tens, is := split(s)
	if !is {
		return 0, false
	}
	// So short a text's digits, times One, always have room.
	parts, _ := wide.Scale(digits, api.One)
	q, _, _ := quot.Wide(parts, tens)
	x, is := wide.Fits(q)
	// Of all the texts of a number just one is its Show: that tells the form, too.
	if !is || Show(x) != s {
		return 0, false
	}
	return x, true
}

// split is all the digits of a text as one number, with its sign, and ten to as many of them as stand behind the point; false: it has something else, or more of them than a Show has.
func split(s string) (wide.Int, int64, bool) {
	var digits wide.Int
	sign, tens, point := int64(1), int64(1), false
	for i, r := range s {
		switch {
		case r == '-' && i == 0:
			sign = -1
		case r == '.' && !point:
			point = true
		case r < '0' || r > '9' || tens == behind:
			return wide.Int{}, 0, false
		default:
			digits, _ = wide.Scale(digits, 10)
			digits, _ = wide.Add(digits, wide.Of(int64(r-'0')))
			if point {
				tens *= 10
			}
		}
	}
	digits, _ = wide.Scale(digits, sign)
	return digits, tens, true
}
