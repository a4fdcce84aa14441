// Package num is layer 1: see shared/doc/01-num.md.
package num

import "eddy/api"

// whole is what sums are reckoned in: flows have a sign, the parts of wide numbers have none.
type whole interface{ int64 | uint64 }

// add is a + b; true: it has wrapped round, as it lies on the other side of a than b's sign says.
func add[T whole](a, b T) (T, bool) {
	s := a + b
	return s, (s < a) != (b < 0)
}

// take is a - b; true: it has wrapped round.
func take[T whole](a, b T) (T, bool) {
	d := a - b
	return d, (d > a) != (b < 0)
}

// checked is a result, if it fits.
func checked(x int64) (int64, api.Errno) {
	if !Fits(x) {
		return 0, api.ErrRange
	}
	return x, api.OK
}

// Fits tells whether a number is in the range of flows.
func Fits(x int64) bool { return -api.MaxFlow <= x && x <= api.MaxFlow }

// Add is a + b.
func Add(a, b int64) (int64, api.Errno) {
	if !Fits(a) || !Fits(b) {
		return 0, api.ErrRange
	}
	s, _ := add(a, b) // two numbers that fit never wrap round
	return checked(s)
}

// Sub is a - b.
func Sub(a, b int64) (int64, api.Errno) {
	if !Fits(a) || !Fits(b) {
		return 0, api.ErrRange
	}
	d, _ := take(a, b)
	return checked(d)
}

// Mul is a * b.
func Mul(a, b int64) (int64, api.Errno) {
	if !Fits(a) || !Fits(b) {
		return 0, api.ErrRange
	}
	return checked(a * b) // below 2^62 either way
}

// Half is half the difference of two numbers, cut off towards zero.
func Half(a, b int64) (int64, api.Errno) {
	if !Fits(a) || !Fits(b) {
		return 0, api.ErrRange
	}
	d, _ := take(a, b) // it may leave the range of flows, its half does not
	return d / 2, api.OK
}

// Sum is the sum of a list.
func Sum(l []int64) (int64, api.Errno) {
	total, fit := int64(0), true
list:
	for i := range len(l) {
		switch {
		case Fits(l[i]):
			total, _ = add(total, l[i]) // fewer than 2^31 numbers below 2^31 never wrap round
		default:
			fit = false
			break list
		}
	}
	if !fit {
		return 0, api.ErrRange
	}
	return checked(total)
}
