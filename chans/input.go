package chans

import (
	"eddy/api"
	"eddy/num"
)

// reckoner works out what an input is told as. It goes on behind an error, so that what is told of a kind reads as it
// stands in the document; the first error is kept.
type reckoner struct{ err api.Errno }

// fail keeps an error, if it is the first one.
func (r *reckoner) fail(err api.Errno) {
	if r.err == api.OK {
		r.err = err
	}
}

// times is a product. (num asks whether the factors fit, too; that asks no more than whether the product does, as no
// factor is 0 beside one that does not fit.)
func (r *reckoner) times(a, b int64) int64 {
	p, err := num.Mul(a, b)
	r.fail(err)
	return p
}

// unit is a number that must be 0 or 1.
func (r *reckoner) unit(x int64) int64 {
	if x != 0 && x != 1 {
		r.fail(api.ErrUnit)
	}
	return x
}

// plain is a number as it is.
func (r *reckoner) plain(x int64) int64 {
	if !num.Fits(x) {
		r.fail(api.ErrRange)
	}
	return x
}

// telling is how inputs of a kind are told.
type telling struct {
	tell func(r *reckoner, x, scale int64) int64
}

// tellings are those of all kinds, by their numbers.
func tellings() [api.KExt + 1]telling {
	return [api.KExt + 1]telling{
		api.KMean:   {func(r *reckoner, x, scale int64) int64 { return r.times(x, scale) }},
		api.KCount:  {func(r *reckoner, x, scale int64) int64 { return r.times(r.unit(x), scale) }},
		api.KSquare: {func(r *reckoner, x, scale int64) int64 { return r.times(r.times(x, x), scale) }},
		api.KExt:    {func(r *reckoner, x, _ int64) int64 { return r.plain(x) }},
	}
}

// told is what an input of a channel is told as.
func told(c api.Chan, x int64) (input int64, err api.Errno) {
	if c.Kind < api.KMean || c.Kind > api.KExt { // of a record that is not fit
		return 0, api.ErrKind
	}
	r := &reckoner{}
	defer func() {
		if r.err != api.OK {
			input, err = 0, r.err
		}
	}()
	return tellings()[c.Kind].tell(r, x, c.Scale), api.OK
}
