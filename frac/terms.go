package frac

import (
	"iter"

	"eddy/api"
)

// step is one term of a continued fraction; last: none is behind it.
type step struct {
	term int64
	last bool
}

// up is the least whole number that is not below what the step begins.
func (s step) up() int64 {
	if s.last {
		return s.term
	}
	return s.term + 1
}

// walk is a place among a fraction's terms: n over d is still to be unfolded, nothing if d is 0.
type walk struct{ n, d int64 }

// begin is the place ahead of the first term.
func begin(f api.Frac) walk { return walk{f.Num, f.Den} }

// next goes over one term; false: there is none.
func (w *walk) next() (step, bool) {
	if w.d == 0 {
		return step{}, false
	}
	term, rest := w.n/w.d, w.n%w.d
	if rest != 0 && (rest < 0) != (w.d < 0) { // Go cuts off towards zero, a term does not
		term, rest = term-1, rest+w.d
	}
	w.n, w.d = w.d, rest
	return step{term, rest == 0}, true
}

// terms hands out a fraction's terms.
func terms(f api.Frac) iter.Seq[step] {
	return func(yield func(step) bool) {
		w := begin(f)
		for s, ok := w.next(); ok && yield(s); s, ok = w.next() {
		}
	}
}

// abreast hands out the terms of two fractions side by side, as far as both have some.
func abreast(a, b api.Frac) iter.Seq2[step, step] {
	return func(yield func(step, step) bool) {
		w := begin(b)
		for s := range terms(a) {
			t, ok := w.next()
			if !ok || !yield(s, t) {
				return
			}
		}
	}
}

// Terms is a fraction's continued fraction.
func Terms(f api.Frac) []int64 {
	var l []int64
	for s := range terms(f) {
		l = append(l, s.term)
	}
	return l
}

// From is the fraction of terms.
func From(l []int64) (api.Frac, api.Errno) {
	if len(l) == 0 {
		return api.Frac{}, api.ErrZero
	}
	for _, term := range l[1:] {
		if term < 1 {
			return api.Frac{}, api.ErrZero
		}
	}
	f, err := Make(l[len(l)-1], 1)
	for i := len(l) - 2; i >= 0 && err == api.OK; i-- {
		f, err = onto(l[i], f)
	}
	return f, err
}

// onto is term + 1 / f, where f is 1 or more.
func onto(term int64, f api.Frac) (api.Frac, api.Errno) {
	if size(term) > maxPart+1 { // 1 / f brings it back by 1 at most, and products of greater ones would wrap round
		return api.Frac{}, api.ErrRange
	}
	return Make(term*f.Num+f.Den, f.Num)
}

// Near is the simplest fraction in a range.
func Near(low, high api.Frac) (api.Frac, bool) {
	switch {
	case Cmp(low, high) > 0:
		return api.Frac{}, false
	case low.Num <= 0 && high.Num >= 0:
		return api.Frac{Num: 0, Den: 1}, true
	case high.Num < 0: // the nearest to 0 is sought, so both sides of it are alike
		f, ok := simplest(negative(high), negative(low))
		return negative(f), ok
	}
	return simplest(low, high)
}

// simplest is Near above 0. What both ends begin with, all between them begin with; where they part, the term that
// ends soonest is the least whole number that the lower rest allows. If one ends there, it is the simplest itself.
func simplest(low, high api.Frac) (api.Frac, bool) {
	var l []int64
together:
	for a, b := range abreast(low, high) {
		switch {
		case a.term < b.term:
			l = append(l, a.up())
			break together
		case b.term < a.term:
			l = append(l, b.up())
			break together
		}
		l = append(l, a.term)
	}
	f, err := From(l)
	return f, err == api.OK
}
