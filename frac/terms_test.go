package frac

import (
	"math"
	"math/big"
	"math/rand"
	"slices"
	"testing"

	"eddy/api"
)

func TestP2_6TermsExamples(t *testing.T) {
	for _, c := range []struct {
		f    api.Frac
		want []int64
	}{
		{fr(355, 113), []int64{3, 7, 16}}, {fr(-3, 2), []int64{-2, 2}}, {fr(0, 1), []int64{0}}, {fr(5, 1), []int64{5}}, {fr(-5, 1), []int64{-5}}, {fr(1, 2), []int64{0, 2}}, {fr(-1, 2), []int64{-1, 2}}, {fr(-1, 3), []int64{-1, 1, 2}},
		{fr(most, 1), []int64{most}}, {fr(-most, 1), []int64{-most}}, {fr(1, most), []int64{0, most}}, {fr(-1, most), []int64{-1, 1, most - 1}}, {fr(most, most-1), []int64{1, most - 1}}, {fr(most-1, most), []int64{0, 1, most - 1}}, {fr(-most, 2), []int64{-1 << 30, 2}},
	} {
		if got := Terms(c.f); !slices.Equal(got, c.want) {
			t.Errorf("Terms(%v): %v", c.f, got)
		}
	}
}

// unfolded is Terms by the document's words.
func unfolded(f api.Frac) []int64 {
	whole := new(big.Int).Div(big.NewInt(f.Num), big.NewInt(f.Den)) // Den is above 0, so this cuts off downwards
	l := []int64{whole.Int64()}
	rest := new(big.Rat).Sub(rat(f), new(big.Rat).SetInt(whole))
	if rest.Sign() == 0 {
		return l
	}
	rest.Inv(rest)
	return append(l, unfolded(fr(rest.Num().Int64(), rest.Denom().Int64()))...)
}

func TestP2_6TermsUnfold(t *testing.T) {
	for f := range pairs {
		l := Terms(f)
		if want := unfolded(f); !slices.Equal(l, want) {
			t.Errorf("Terms(%v): %v, not %v", f, l, want)
		}
		if l[0] != Floor(f) || len(l) > 1 && (slices.Min(l[1:]) < 1 || l[len(l)-1] < 2) {
			t.Errorf("Terms(%v): %v", f, l)
		}
	}
}

func TestP2_7FromExamples(t *testing.T) {
	for _, c := range []struct {
		l    []int64
		want api.Frac
		err  api.Errno
	}{
		{[]int64{3, 7, 15, 1}, fr(355, 113), api.OK}, {[]int64{3, 7, 16}, fr(355, 113), api.OK}, {[]int64{5}, fr(5, 1), api.OK}, {[]int64{0}, fr(0, 1), api.OK}, {[]int64{-2, 2}, fr(-3, 2), api.OK}, {[]int64{-1, 1}, fr(0, 1), api.OK}, {[]int64{4, 1}, fr(5, 1), api.OK}, {[]int64{0, 1, 1, 1}, fr(2, 3), api.OK},
		{nil, none, api.ErrZero}, {[]int64{}, none, api.ErrZero}, {[]int64{1, 0}, none, api.ErrZero}, {[]int64{1, -1}, none, api.ErrZero}, {[]int64{1, 2, 0, 3}, none, api.ErrZero}, {[]int64{1, math.MinInt64, 3}, none, api.ErrZero},
		{[]int64{1 << 40, 2, 0}, none, api.ErrZero}, {[]int64{math.MinInt64, 1 << 40, -1}, none, api.ErrZero}, {[]int64{0, 0, 1 << 40}, none, api.ErrZero},
		{[]int64{most}, fr(most, 1), api.OK}, {[]int64{-most}, fr(-most, 1), api.OK}, {[]int64{most + 1}, none, api.ErrRange}, {[]int64{-most - 1}, none, api.ErrRange}, {[]int64{math.MinInt64}, none, api.ErrRange}, {[]int64{math.MaxInt64}, none, api.ErrRange}, {[]int64{1 << 40}, none, api.ErrRange},
		{[]int64{0, most}, fr(1, most), api.OK}, {[]int64{0, most + 1}, none, api.ErrRange}, {[]int64{0, math.MaxInt64}, none, api.ErrRange}, {[]int64{0, most, 1}, none, api.ErrRange}, {[]int64{0, most - 1, 1}, fr(1, most), api.OK},
		{[]int64{-most - 1, 1}, fr(-most, 1), api.OK}, {[]int64{-most - 1, 2}, none, api.ErrRange}, {[]int64{-most - 2, 1}, none, api.ErrRange}, {[]int64{most, 1}, none, api.ErrRange}, {[]int64{most - 1, 1}, fr(most, 1), api.OK}, {[]int64{math.MinInt64, 1}, none, api.ErrRange}, {[]int64{math.MaxInt64, 1}, none, api.ErrRange}, {[]int64{math.MinInt64, most}, none, api.ErrRange}, {[]int64{math.MaxInt64, most}, none, api.ErrRange}, {[]int64{math.MinInt64, 2, math.MaxInt64}, none, api.ErrRange},
		{[]int64{1 << 62, 4}, none, api.ErrRange}, {[]int64{1<<62 + 1, 4}, none, api.ErrRange}, {[]int64{1 << 33, 1 << 31}, none, api.ErrRange}, {[]int64{0, 1 << 62, 4}, none, api.ErrRange}, {[]int64{0, 1, 1 << 62, 4}, none, api.ErrRange},
		{[]int64{0, 1, most}, none, api.ErrRange}, {[]int64{0, 1, most - 1}, fr(most-1, most), api.OK}, {[]int64{-1, 1, most - 1}, fr(-1, most), api.OK}, {[]int64{-1, 1, most}, none, api.ErrRange},
	} {
		kept := slices.Clone(c.l)
		if got, err := From(c.l); got != c.want || err != c.err {
			t.Errorf("From(%v): %v %v", c.l, got, err)
		}
		if !slices.Equal(kept, c.l) {
			t.Errorf("From has changed %v to %v", kept, c.l)
		}
	}
}

// folded is From by the document's words.
func folded(l []int64) (api.Frac, api.Errno) {
	if len(l) == 0 {
		return none, api.ErrZero
	}
	if slices.ContainsFunc(l[1:], func(x int64) bool { return x < 1 }) {
		return none, api.ErrZero
	}
	x := new(big.Rat)
	for i, term := range slices.Backward(l) {
		if i < len(l)-1 {
			x.Inv(x)
		}
		x.Add(x, new(big.Rat).SetInt64(term))
		if _, err := told(x); err != api.OK {
			return none, err
		}
	}
	return told(x)
}

func TestP2_7FromFolds(t *testing.T) {
	r := rand.New(rand.NewSource(5))
	fits := 0
	for range 30000 {
		l := make([]int64, r.Intn(12))
		for i := range l {
			l[i] = []int64{r.Int63n(3) + 1, r.Int63n(20) + 1, r.Int63n(1<<32) + 1, int64(r.Uint64() >> (r.Uint64() % 62))}[max(0, r.Intn(20)-16)]
			if i == 0 && r.Intn(2) == 0 {
				l[i] = -l[i]
			}
			if r.Intn(50) == 0 {
				l[i] = wholes()[r.Intn(len(wholes()))]
			}
		}
		want, wantErr := folded(l)
		if wantErr == api.OK {
			fits++
		}
		if got, err := From(l); got != want || err != wantErr {
			t.Errorf("From(%v): %v %v, not %v %v", l, got, err, want, wantErr)
		}
	}
	if fits < 5000 {
		t.Errorf("only %d of the lists fit", fits)
	}
}

func TestP2_7FromOfManyTerms(t *testing.T) {
	ones := slices.Repeat([]int64{1}, 45)
	for n := 1; n <= 60; n++ {
		l := slices.Repeat([]int64{1}, n)
		want, wantErr := folded(l)
		if got, err := From(l); got != want || err != wantErr {
			t.Errorf("From(%d ones): %v %v, not %v %v", n, got, err, want, wantErr)
		}
	}
	if f, err := From(ones); f != fr(1836311903, 1134903170) || err != api.OK {
		t.Errorf("45 ones: %v %v", f, err)
	}
	if f, err := From(append(ones, 1)); f != none || err != api.ErrRange {
		t.Errorf("46 ones: %v %v", f, err)
	}
	long := slices.Repeat([]int64{1}, 1<<20)
	if f, err := From(long); f != none || err != api.ErrRange {
		t.Errorf("2^20 ones: %v %v", f, err)
	}
	long[1] = 0
	if f, err := From(long); f != none || err != api.ErrZero {
		t.Errorf("2^20 terms, one of them 0: %v %v", f, err)
	}
}

func TestP2_8NearExamples(t *testing.T) {
	for _, c := range []struct {
		low, high, want api.Frac
		ok              bool
	}{
		{fr(31, 10), fr(16, 5), fr(16, 5), true}, {fr(3, 1), fr(4, 1), fr(3, 1), true}, {fr(-1, 2), fr(1, 3), fr(0, 1), true}, {fr(-7, 2), fr(-5, 2), fr(-3, 1), true},
		{fr(-4, 1), fr(-3, 1), fr(-3, 1), true}, {fr(0, 1), fr(5, 1), fr(0, 1), true}, {fr(-5, 1), fr(0, 1), fr(0, 1), true}, {fr(0, 1), fr(0, 1), fr(0, 1), true}, {fr(7, 3), fr(7, 3), fr(7, 3), true}, {fr(-7, 3), fr(-7, 3), fr(-7, 3), true},
		{fr(1, 3), fr(1, 2), fr(1, 2), true}, {fr(5, 2), fr(9, 2), fr(3, 1), true}, {fr(1, 3), fr(2, 3), fr(1, 2), true}, {fr(5, 3), fr(7, 4), fr(5, 3), true}, {fr(157, 50), fr(63, 20), fr(22, 7), true},
		{fr(1, most), fr(1, most-1), fr(1, most-1), true}, {fr(-1, most-1), fr(-1, most), fr(-1, most-1), true}, {fr(1, most), fr(most, 1), fr(1, 1), true}, {fr(-most, 1), fr(-1, most), fr(-1, 1), true}, {fr(-most, 1), fr(most, 1), fr(0, 1), true}, {fr(most-1, 1), fr(most, 1), fr(most-1, 1), true}, {fr(-most, 1), fr(-most+1, 1), fr(-most+1, 1), true}, {fr(most, 1), fr(most, 1), fr(most, 1), true}, {fr(-most, 1), fr(-most, 1), fr(-most, 1), true}, {fr(most-2, most-1), fr(most-1, most), fr(most-2, most-1), true}, {fr(most, 2), fr(most, 1), fr(1<<30, 1), true},
		{fr(1, 2), fr(1, 3), none, false}, {fr(1, 1), fr(-1, 1), none, false}, {fr(-1, 3), fr(-1, 2), none, false}, {fr(most-1, most), fr(most-2, most-1), none, false}, {fr(0, 1), fr(-1, most), none, false},
	} {
		if got, ok := Near(c.low, c.high); got != c.want || ok != c.ok {
			t.Errorf("Near(%v, %v): %v %v", c.low, c.high, got, ok)
		}
	}
}

// sought is Near by the document's words: denominator by denominator.
func sought(low, high api.Frac) (api.Frac, bool) {
	if rat(low).Cmp(rat(high)) > 0 {
		return none, false
	}
	for d := int64(1); ; d++ {
		first := -floorOf(-low.Num*d, low.Den)
		last := floorOf(high.Num*d, high.Den)
		switch {
		case first > last:
		case first > 0:
			return fr(first, d), true
		case last < 0:
			return fr(last, d), true
		default:
			return fr(0, d), true
		}
	}
}

func floorOf(n, d int64) int64 {
	return new(big.Int).Div(big.NewInt(n), big.NewInt(d)).Int64()
}

func TestP2_8NearIsTheSimplest(t *testing.T) {
	var small []api.Frac
	for d := int64(1); d <= 8; d++ {
		for n := -3 * d; n <= 3*d; n++ {
			if f := fr(n, d); Valid(f) {
				small = append(small, f)
			}
		}
	}
	check := func(low, high api.Frac) {
		want, wantOk := sought(low, high)
		if got, ok := Near(low, high); got != want || ok != wantOk {
			t.Errorf("Near(%v, %v): %v %v, not %v %v", low, high, got, ok, want, wantOk)
		}
	}
	for _, low := range small {
		for _, high := range small {
			check(low, high)
		}
	}
	r := rand.New(rand.NewSource(6))
	for range 20000 {
		check(drawn(r, 300), drawn(r, 300))
	}
	for range 3000 { // ends that are close to each other share many terms
		a := drawn(r, 40000)
		if b, err := Add(a, fr(1, r.Int63n(50000)+1)); err == api.OK {
			check(a, b)
		}
	}
}

func TestP2_8NearOfGreatParts(t *testing.T) {
	for a, b := range pairs {
		low, high := a, b
		if Cmp(a, b) > 0 {
			low, high = b, a
		}
		got, ok := Near(low, high)
		if !ok || !Valid(got) || Cmp(got, low) < 0 || Cmp(got, high) > 0 || got.Den > min(low.Den, high.Den) {
			t.Errorf("Near(%v, %v): %v %v", low, high, got, ok)
		}
		if again, ok := Near(got, high); again != got && low.Num > 0 || !ok {
			t.Errorf("Near(%v, %v): %v, but from there on %v", low, high, got, again)
		}
	}
}

func TestP2_10ThereAndBack(t *testing.T) {
	for f := range pairs {
		if g, err := From(Terms(f)); g != f || err != api.OK {
			t.Errorf("From(Terms(%v)): %v %v", f, g, err)
		}
		if g, ok := Parse(Text(f)); g != f || !ok {
			t.Errorf("Parse(Text(%v)): %v %v", f, g, ok)
		}
	}
}

func TestRule0_5TermsAreNewMemory(t *testing.T) {
	l := Terms(fr(355, 113))
	l[0] = 9
	if again := Terms(fr(355, 113)); again[0] != 3 {
		t.Error("Terms hands out what it keeps")
	}
}
