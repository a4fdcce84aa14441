package num

import (
	"math/bits"

	"eddy/api"
)

// maxDigits is how many decimal digits 2^128 - 1 has.
const maxDigits = 39

// addWide is a + b modulo 2^128; true: it has wrapped round.
func addWide(a, b api.Wide) (api.Wide, bool) {
	lo, carry := add(a.Lo, b.Lo)
	hi, over := add(a.Hi, b.Hi)
	if carry {
		next, again := add(hi, 1)
		hi, over = next, over || again
	}
	return api.Wide{Hi: hi, Lo: lo}, over
}

// square is x times x.
func square(x int64) api.Wide {
	size := uint64(x)
	if x < 0 {
		size = -size // without a sign, so that the least int64 has its size as well
	}
	hi, lo := bits.Mul64(size, size)
	return api.Wide{Hi: hi, Lo: lo}
}

// Squares is the sum of the squares of a list, modulo 2^128.
func Squares(l []int64) api.Wide {
	var total api.Wide
	for i := range len(l) {
		total, _ = addWide(total, square(l[i]))
	}
	return total
}

// Plus is the sum of two wide numbers; false: it has more than 128 bits.
func Plus(a, b api.Wide) (api.Wide, bool) {
	s, over := addWide(a, b)
	if over {
		return api.Wide{}, false
	}
	return s, true
}

// Less tells whether a is below b.
func Less(a, b api.Wide) bool {
	if a.Hi != b.Hi {
		return a.Hi < b.Hi
	}
	return a.Lo < b.Lo
}

// Drop is a - b; false: b is greater.
func Drop(a, b api.Wide) (api.Wide, bool) {
	if Less(a, b) {
		return api.Wide{}, false
	}
	lo, borrow := take(a.Lo, b.Lo)
	hi, _ := take(a.Hi, b.Hi)
	if borrow {
		hi, _ = take(hi, 1)
	}
	return api.Wide{Hi: hi, Lo: lo}, true
}

// splitDigit is a without its last digit, and that digit as a byte of a text.
func splitDigit(a api.Wide) (api.Wide, byte) {
	hi, rest := a.Hi/10, a.Hi%10
	lo, last := bits.Div64(rest, a.Lo, 10)
	return api.Wide{Hi: hi, Lo: lo}, '0' + byte(last)
}

// joinDigit is a with one digit more behind it; false: c is no digit, or it has more than 128 bits.
func joinDigit(a api.Wide, c byte) (api.Wide, bool) {
	if c < '0' || c > '9' {
		return api.Wide{}, false
	}
	beyond, top := bits.Mul64(a.Hi, 10)
	carry, lo := bits.Mul64(a.Lo, 10)
	hi, over := add(top, carry)
	if beyond != 0 || over {
		return api.Wide{}, false
	}
	return Plus(api.Wide{Hi: hi, Lo: lo}, api.Wide{Lo: uint64(c - '0')})
}

// Text writes a wide number.
func Text(a api.Wide) string {
	var digits [maxDigits]byte
	at := maxDigits
	for more := true; more; more = a != (api.Wide{}) { // nought has a digit as well
		at--
		a, digits[at] = splitDigit(a)
	}
	return string(digits[at:])
}

// Parse reads what Text writes, and nothing else.
func Parse(s string) (api.Wide, api.Errno) {
	if s == "" || len(s) > maxDigits || len(s) > 1 && s[0] == '0' {
		return api.Wide{}, api.ErrForm
	}
	var a api.Wide
	for i := range len(s) {
		next, ok := joinDigit(a, s[i])
		if !ok {
			return api.Wide{}, api.ErrForm
		}
		a = next
	}
	return a, api.OK
}
