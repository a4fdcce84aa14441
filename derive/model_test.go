package derive

import (
	"math"
	"math/big"
	"math/rand"
	"strconv"

	"eddy/api"
)

const (
	most      = 2147483647 // the greatest flow, and the greatest part of a fraction
	mostScale = 1048576
	mostNodes = 723 // the greatest n with 2 * n * (n + 1) at most mostScale
)

var none api.Frac

func fr(n, d int64) api.Frac { return api.Frac{Num: n, Den: d} }

func rat(f api.Frac) *big.Rat { return big.NewRat(f.Num, f.Den) }

func whole(x int64) *big.Int { return big.NewInt(x) }

// inRange tells whether a number, however great it is, is in the range of flows.
func inRange(x *big.Int) bool { return x.CmpAbs(whole(most)) <= 0 }

// sayValid is chapter 2's word for a fraction that is fit.
func sayValid(f api.Frac) bool {
	if f.Den < 1 || f.Den > most || f.Num < -most || f.Num > most {
		return false
	}
	return new(big.Int).GCD(nil, nil, new(big.Int).Abs(whole(f.Num)), whole(f.Den)).Cmp(whole(1)) == 0
}

// sayFrac is what a call answers, if x comes: big's fractions are reduced ones.
func sayFrac(x *big.Rat) (api.Frac, api.Errno) {
	if !inRange(x.Num()) || !inRange(x.Denom()) {
		return none, api.ErrRange
	}
	return fr(x.Num().Int64(), x.Denom().Int64()), api.OK
}

// sayEstimate is what is wrong with an estimate or a scale.
func sayEstimate(e, scale int64) api.Errno {
	if scale < 1 || scale > mostScale {
		return api.ErrScale
	}
	if e < -most || e > most {
		return api.ErrRange
	}
	return api.OK
}

func sayMean(e, scale int64) (api.Frac, api.Errno) {
	if err := sayEstimate(e, scale); err != api.OK {
		return none, err
	}
	return sayFrac(big.NewRat(e, scale))
}

func sayCount(e, scale int64) (int64, api.Errno) {
	if err := sayEstimate(e, scale); err != api.OK {
		return 0, err
	}
	if e <= 0 {
		return 0, api.ErrEmpty
	}
	below := scale / e
	toBelow, toAbove := scale-below*e, (below+1)*e-scale // distances of the two neighbours, times e
	if toAbove <= toBelow {
		return below + 1, api.OK
	}
	return below, api.OK
}

func sayTotal(mean api.Frac, count int64) (api.Frac, api.Errno) {
	if !sayValid(mean) {
		return none, api.ErrForm
	}
	if !inRange(whole(count)) {
		return none, api.ErrRange
	}
	return sayFrac(new(big.Rat).Mul(rat(mean), new(big.Rat).SetInt64(count)))
}

func sayVariance(second, mean api.Frac) (api.Frac, api.Errno) {
	if !sayValid(second) || !sayValid(mean) {
		return none, api.ErrForm
	}
	square := new(big.Rat).Mul(rat(mean), rat(mean))
	if _, err := sayFrac(square); err != api.OK {
		return none, err
	}
	return sayFrac(new(big.Rat).Sub(rat(second), square))
}

func sayInput(kind int, x, scale int64) (int64, api.Errno) {
	greatest := map[int]int64{1: mostScale, 2: mostScale, 3: mostScale, 4: 1}[kind]
	if greatest == 0 {
		return 0, api.ErrKind
	}
	if scale < 1 || scale > greatest {
		return 0, api.ErrScale
	}
	if kind == 2 && x != 0 && x != 1 {
		return 0, api.ErrUnit
	}
	p := whole(x)
	if kind == 3 {
		p.Mul(p, whole(x))
	}
	if p.Mul(p, whole(scale)); !inRange(p) {
		return 0, api.ErrRange
	}
	return p.Int64(), api.OK
}

func sayText(kind int, e, scale int64) (string, api.Errno) {
	if kind == 2 {
		n, err := sayCount(e, scale)
		if err != api.OK {
			return "", err
		}
		return "count " + strconv.FormatInt(n, 10), api.OK
	}
	word := map[int]string{1: "mean ", 3: "second "}[kind]
	if word == "" {
		return "", api.ErrKind
	}
	f, err := sayMean(e, scale)
	if err != api.OK {
		return "", err
	}
	s := word + strconv.FormatInt(f.Num, 10)
	if f.Den > 1 {
		s += "/" + strconv.FormatInt(f.Den, 10)
	}
	return s, api.OK
}

// numbers are whole ones at and around the ends of all ranges, and at roots of these.
func numbers() []int64 {
	return []int64{
		math.MinInt64, math.MinInt64 + 1, -1 << 62, -1 << 44, -1 << 43, -1<<32 - 1, -1 << 32, -1<<32 + 1, -most - 2, -most - 1, -most, -most + 1, -1 << 30, -46341, -46340, -3000, -2048, -2047, -46, -45, -7, -4, -3, -2, -1,
		0, 1, 2, 3, 4, 6, 7, 10, 45, 46, 100, 2047, 2048, 3000, 32767, 32768, 46340, 46341, 65536, 1 << 30, most - 1, most, most + 1, most + 2, 1<<32 - 1, 1 << 32, 1<<32 + 1, 3037000500, 1 << 43, 1 << 44, 1<<44 + 1, 1 << 62, math.MaxInt64 - 1, math.MaxInt64,
	}
}

// scales are such and others.
func scales() []int64 {
	return append(numbers(), 5, 12, 1000, 1<<19, mostScale-2, mostScale-1, mostScale, mostScale+1, 1<<21)
}

// kinds are all kinds, and numbers that are none.
func kinds() []int {
	return []int{math.MinInt64, -1 << 32, -4, -1, 0, api.KMean, api.KCount, api.KSquare, api.KExt, 5, 6, 1 << 16, 1<<32 + 1, math.MaxInt64}
}

// unfit are fractions that are none: not reduced, without a Den from 1 on, with a part out of its range.
func unfit() []api.Frac {
	return []api.Frac{
		none, fr(1, 0), fr(-1, 0), fr(1, -1), fr(-3, -2), fr(0, -1), fr(0, 2), fr(0, most), fr(2, 4), fr(-2, 4), fr(10, 4), fr(most, most), fr(-most, most), fr(most-1, 2),
		fr(most+1, 1), fr(-most-1, 1), fr(1, most+1), fr(-1, most+2), fr(1<<32+1, 1), fr(1, 1<<32+1), fr(math.MinInt64, 1), fr(math.MaxInt64, 1), fr(math.MaxInt64, 2), fr(1, math.MinInt64), fr(1, math.MaxInt64), fr(math.MinInt64, math.MinInt64), fr(math.MinInt64, math.MaxInt64),
	}
}

// edges are fit fractions at the ends of the ranges and at roots of these, and some between.
func edges() []api.Frac {
	return []api.Frac{
		fr(-most, 1), fr(-most, 2), fr(-most, most-1), fr(-most+1, most), fr(-46341, 1), fr(-46341, 46340), fr(-46340, 1), fr(-7, 2), fr(-5, 2), fr(-2, 1), fr(-3, 2), fr(-1, 1), fr(-1, 2), fr(-1, 3), fr(-1, 46340), fr(-1, 46341), fr(-1, most),
		fr(0, 1), fr(1, most), fr(1, most-1), fr(1, 46341), fr(1, 46340), fr(1, 3), fr(2, 5), fr(1, 2), fr(2, 3), fr(1, 1), fr(3, 2), fr(2, 1), fr(5, 2), fr(7, 3), fr(46339, 46340), fr(46340, 46339), fr(46340, 46341), fr(46340, 1), fr(46341, 1), fr(46341, 2),
		fr(46340*46340, 1), fr(1, 46340*46340), fr(most-1, most), fr(most, most-1), fr(most, 2), fr(most-1, 1), fr(most, 1),
	}
}

// drawn is a fit fraction with parts up to top.
func drawn(r *rand.Rand, top int64) api.Frac {
	f, _ := sayFrac(big.NewRat(r.Int63n(2*top+1)-top, r.Int63n(top)+1))
	return f
}
