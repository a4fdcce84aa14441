package derive

import (
	"strconv"

	"eddy/api"
	"eddy/frac"
)

// kindTelling is how a kind is told; a function that is not there: there is nothing to tell.
type kindTelling struct {
	most  int64 // the greatest scale
	input func(x, scale int64) (int64, api.Errno)
	text  func(e, scale int64) (string, api.Errno)
}

// tellings are those of all kinds, by their numbers.
func tellings() [api.KExt + 1]kindTelling {
	return [api.KExt + 1]kindTelling{
		api.KMean:   {api.MaxScale, times, fraction("mean ")},
		api.KCount:  {api.MaxScale, unit, count},
		api.KSquare: {api.MaxScale, square, fraction("second ")},
		api.KExt:    {1, times, nil}, // with a scale of 1 its input is told as it is; nothing flows, so it has no estimates
	}
}

// telling is how a kind is told; of one that is none, nothing is.
func telling(kind int) kindTelling {
	if kind < api.KMean || kind > api.KExt {
		return kindTelling{}
	}
	return tellings()[kind]
}

// times is a product. It asks of its factors, too, whether they fit, so that it never leaves 64 bits; of the product of
// an input and scales that asks no more, as no scale is 0.
func times(a, b int64) (int64, api.Errno) {
	if !fits(a) || !fits(b) || !fits(a*b) {
		return 0, api.ErrRange
	}
	return a * b, api.OK
}

// unit is a node's part of what is counted.
func unit(x, scale int64) (int64, api.Errno) {
	if x != 0 && x != 1 {
		return 0, api.ErrUnit
	}
	return times(x, scale)
}

// square is a square times a scale.
func square(x, scale int64) (int64, api.Errno) {
	p, err := times(x, x)
	if err != api.OK {
		return 0, err
	}
	return times(p, scale)
}

// fraction is how estimates that stand for a fraction are told, behind a word.
func fraction(word string) func(e, scale int64) (string, api.Errno) {
	return func(e, scale int64) (string, api.Errno) {
		f, err := Mean(e, scale)
		if err != api.OK {
			return "", err
		}
		return word + frac.Text(f), api.OK
	}
}

// count is how estimates that stand for a count are told.
func count(e, scale int64) (string, api.Errno) {
	n, err := Count(e, scale)
	if err != api.OK {
		return "", err
	}
	return "count " + strconv.FormatInt(n, 10), api.OK
}
