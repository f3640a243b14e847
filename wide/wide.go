// Package wide is layer 1: whole numbers of 128 bits, of two halves.
package wide

import "math/bits"

// Int is a number: Hi times 2^64, and Lo.
type Int struct {
	Hi int64
	Lo uint64
}

// Of is a number.
func Of(x int64) Int { return Int{x >> 63, uint64(x)} }

// Sign tells whether a number is below 0, 0, or above.
func Sign(a Int) int { return Cmp(a, Int{}) }

// Cmp tells how two numbers stand to each other.
func Cmp(a, b Int) int {
	switch {
	case a == b:
		return 0
	case a.Hi < b.Hi, a.Hi == b.Hi && a.Lo < b.Lo:
		return -1
	}
	return 1
}

// Add is the sum; false: it has no room.
func Add(a, b Int) (Int, bool) {
	lo, carry := bits.Add64(a.Lo, b.Lo, 0)
	hi, _ := bits.Add64(uint64(a.Hi), uint64(b.Hi), carry)
	s := Int{int64(hi), lo}
	// Only a sum of two numbers of one sign can leave the room, and then it has the other sign.
	if below(a) == below(b) && below(s) != below(a) {
		return Int{}, false
	}
	return s, true
}

// Sub is the difference; false: it has no room.
func Sub(a, b Int) (Int, bool) {
	lo, borrow := bits.Sub64(a.Lo, b.Lo, 0)
	hi, _ := bits.Sub64(uint64(a.Hi), uint64(b.Hi), borrow)
	d := Int{int64(hi), lo}
	// Only a difference of two numbers of both signs can leave the room, and then it has the second one's sign.
	if below(a) != below(b) && below(d) != below(a) {
		return Int{}, false
	}
	return d, true
}

// Neg is the number with its sign turned; false: it has no room.
func Neg(a Int) (Int, bool) { return Sub(Int{}, a) }

// Mul is the product.
func Mul(a, b int64) Int {
	hi, lo := bits.Mul64(sizeOf(Of(a)).lo, sizeOf(Of(b)).lo)
	// At most 2^126: it always has room.
	p, _ := size{hi, lo}.signed((a < 0) != (b < 0))
	return p
}

// Scale is the product; false: it has no room.
func Scale(a Int, b int64) (Int, bool) {
	s, f := sizeOf(a), sizeOf(Of(b)).lo
	carry, lo := bits.Mul64(s.lo, f)
	over, hi := bits.Mul64(s.hi, f)
	hi, more := bits.Add64(hi, carry, 0)
	if over > 0 || more > 0 {
		return Int{}, false
	}
	return size{hi, lo}.signed(below(a) != (b < 0))
}

// Shr is the number divided by a power of two, rounded down.
func Shr(a Int, n int) Int {
	n = max(n, 0)
	if n >= 64 {
		return Int{a.Hi >> 63, uint64(a.Hi >> (n - 64))}
	}
	return Int{a.Hi >> n, uint64(a.Hi)<<(64-n) | a.Lo>>n}
}

// Shl is the number times a power of two; false: it has no room.
func Shl(a Int, n int) (Int, bool) {
	if n < 0 {
		return Int{}, false
	}
	s := left(a, n)
	// What has left the room doesn't come back.
	if Shr(s, n) != a {
		return Int{}, false
	}
	return s, true
}

// left is a number's halves moved up, whatever leaves them.
func left(a Int, n int) Int {
	if n >= 64 {
		return Int{int64(a.Lo << (n - 64)), 0}
	}
	return Int{a.Hi<<n | int64(a.Lo>>(64-n)), a.Lo << n}
}

// Fits is the number as an int64; false: it has no room there.
func Fits(a Int) (int64, bool) {
	x := int64(a.Lo)
	if Of(x) != a {
		return 0, false
	}
	return x, true
}

// Text is the decimal digits.
func Text(a Int) string {
	s := sizeOf(a)
	var text [40]byte // 2^127 has 39 digits, and a sign stands ahead
	at := len(text)
	for at == len(text) || s != (size{}) {
		var digit uint64
		s, digit = s.tenth()
		at--
		text[at] = byte('0' + digit)
	}
	if below(a) {
		at--
		text[at] = '-'
	}
	return string(text[at:])
}

func below(a Int) bool { return a.Hi < 0 }
