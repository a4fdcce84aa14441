package derive

import (
	"math"
	"math/big"
	"math/rand"
	"testing"

	"eddy/api"
)

func TestP19_1MeanExamples(t *testing.T) {
	for _, c := range []struct {
		e, scale int64
		want     api.Frac
		err      api.Errno
	}{
		{6, 4, fr(3, 2), api.OK}, {0, 4, fr(0, 1), api.OK}, {-6, 4, fr(-3, 2), api.OK},
		{0, 1, fr(0, 1), api.OK}, {0, mostScale, fr(0, 1), api.OK}, {7, 1, fr(7, 1), api.OK}, {-7, 1, fr(-7, 1), api.OK}, {1, mostScale, fr(1, mostScale), api.OK}, {-1, mostScale, fr(-1, mostScale), api.OK}, {mostScale, mostScale, fr(1, 1), api.OK}, {3 * mostScale / 2, mostScale, fr(3, 2), api.OK},
		{most, 1, fr(most, 1), api.OK}, {-most, 1, fr(-most, 1), api.OK}, {most, mostScale, fr(most, mostScale), api.OK}, {-most, mostScale, fr(-most, mostScale), api.OK}, {most - 1, 2, fr(1<<30-1, 1), api.OK}, {most, mostScale - 1, fr(most, mostScale-1), api.OK},
		{6, 0, none, api.ErrScale}, {6, -1, none, api.ErrScale}, {6, -4, none, api.ErrScale}, {6, mostScale + 1, none, api.ErrScale}, {6, 1 << 32, none, api.ErrScale}, {6, 1<<32 + 4, none, api.ErrScale}, {6, math.MinInt64, none, api.ErrScale}, {6, math.MaxInt64, none, api.ErrScale}, {0, 0, none, api.ErrScale},
		{most + 1, 1, none, api.ErrRange}, {-most - 1, 1, none, api.ErrRange}, {math.MinInt64, 4, none, api.ErrRange}, {math.MaxInt64, 4, none, api.ErrRange},
		{most + 1, 4, none, api.ErrRange}, {-most - 1, mostScale, none, api.ErrRange}, {1 << 40, mostScale, none, api.ErrRange}, // what is reduced would be a fraction
		{most + 1, 0, none, api.ErrScale}, {-most - 1, mostScale + 1, none, api.ErrScale}, {math.MinInt64, -1, none, api.ErrScale}, // both: the scale is named first
	} {
		if got, err := Mean(c.e, c.scale); got != c.want || err != c.err {
			t.Errorf("Mean(%d, %d): %v, %d, want %v, %d", c.e, c.scale, got, err, c.want, c.err)
		}
	}
}

func TestP19_2CountExamples(t *testing.T) {
	for _, c := range []struct {
		e, scale, want int64
		err            api.Errno
	}{
		{100, 1000, 10, api.OK}, {3, 10, 3, api.OK}, {4, 10, 3, api.OK}, {0, 10, 0, api.ErrEmpty}, {20, 10, 1, api.OK}, {21, 10, 0, api.OK},
		{1, 1, 1, api.OK}, {2, 1, 1, api.OK}, {3, 1, 0, api.OK}, {most, 1, 0, api.OK}, {1, mostScale, mostScale, api.OK}, {2, mostScale, mostScale / 2, api.OK}, {mostScale, mostScale, 1, api.OK},
		{2, 7, 4, api.OK}, {2, 5, 3, api.OK}, {6, 9, 2, api.OK}, {7, 10, 1, api.OK}, {19, 10, 1, api.OK}, {8, 20, 3, api.OK}, {9, 22, 2, api.OK}, {9, 23, 3, api.OK}, // halves, and what is near them
		{2 * mostScale, mostScale, 1, api.OK}, {2*mostScale - 1, mostScale, 1, api.OK}, {2*mostScale + 1, mostScale, 0, api.OK}, {3, mostScale, 349525, api.OK}, {most, mostScale, 0, api.OK},
		{-1, 10, 0, api.ErrEmpty}, {0, 1, 0, api.ErrEmpty}, {0, mostScale, 0, api.ErrEmpty}, {-100, 1000, 0, api.ErrEmpty}, {-most, 10, 0, api.ErrEmpty},
		{1, 0, 0, api.ErrScale}, {1, -1, 0, api.ErrScale}, {1, mostScale + 1, 0, api.ErrScale}, {1, math.MinInt64, 0, api.ErrScale}, {1, math.MaxInt64, 0, api.ErrScale}, {1, 1<<32 + 10, 0, api.ErrScale},
		{most + 1, 10, 0, api.ErrRange}, {-most - 1, 10, 0, api.ErrRange}, {math.MinInt64, 10, 0, api.ErrRange}, {math.MaxInt64, 10, 0, api.ErrRange}, {1<<32 + 1, 10, 0, api.ErrRange},
		{0, 0, 0, api.ErrScale}, {-1, mostScale + 1, 0, api.ErrScale}, {most + 1, 0, 0, api.ErrScale}, {math.MinInt64, -1, 0, api.ErrScale}, // the first that is named
	} {
		if got, err := Count(c.e, c.scale); got != c.want || err != c.err {
			t.Errorf("Count(%d, %d): %d, %d, want %d, %d", c.e, c.scale, got, err, c.want, c.err)
		}
	}
}

// meets holds Mean and Count to the document's words.
func meets(t *testing.T, e, scale int64) {
	t.Helper()
	want, wantErr := sayMean(e, scale)
	if got, err := Mean(e, scale); got != want || err != wantErr {
		t.Errorf("Mean(%d, %d): %v, %d, want %v, %d", e, scale, got, err, want, wantErr)
	}
	n, wantErr := sayCount(e, scale)
	if got, err := Count(e, scale); got != n || err != wantErr {
		t.Errorf("Count(%d, %d): %d, %d, want %d, %d", e, scale, got, err, n, wantErr)
	}
}

func TestP19_1And2AtAllEdges(t *testing.T) {
	for _, e := range scales() {
		for _, scale := range scales() {
			meets(t, e, scale)
		}
	}
}

func TestP19_1And2OfSmallOnes(t *testing.T) {
	for scale := int64(-1); scale <= 60; scale++ {
		for e := int64(-130); e <= 130; e++ {
			meets(t, e, scale)
		}
	}
}

func TestP19_1And2OfDrawnOnes(t *testing.T) {
	r := rand.New(rand.NewSource(19))
	for i := range 40000 {
		scale, by := r.Int63n(mostScale)+1, uint(i%33)
		meets(t, int64(r.Uint64())>>(31+by), scale)
		half := (2*scale)/(2*r.Int63n(40)+1) + r.Int63n(3) - 1 // near where the count is a number and a half
		meets(t, half, scale)
		meets(t, int64(r.Uint64())>>by, scale+r.Int63n(3)-1)
	}
}

func TestP19_3TotalExamples(t *testing.T) {
	for _, c := range []struct {
		mean  api.Frac
		count int64
		want  api.Frac
		err   api.Errno
	}{
		{fr(3, 2), 10, fr(15, 1), api.OK}, {fr(3, 2), 0, fr(0, 1), api.OK}, {fr(0, 1), 10, fr(0, 1), api.OK}, {fr(0, 1), most, fr(0, 1), api.OK}, {fr(3, 2), -10, fr(-15, 1), api.OK}, {fr(-3, 2), 5, fr(-15, 2), api.OK}, {fr(-3, 2), -5, fr(15, 2), api.OK}, {fr(2, 3), 1, fr(2, 3), api.OK},
		{fr(1, 1), most, fr(most, 1), api.OK}, {fr(1, 1), -most, fr(-most, 1), api.OK}, {fr(-1, 1), -most, fr(most, 1), api.OK}, {fr(most, 1), 1, fr(most, 1), api.OK}, {fr(1, 3), most, fr(most, 3), api.OK}, {fr(1<<30-1, 1), 2, fr(most-1, 1), api.OK},
		{fr(1, most), most, fr(1, 1), api.OK}, {fr(-2, most), most, fr(-2, 1), api.OK}, {fr(most-1, most), most, fr(most-1, 1), api.OK}, {fr(most, 3), 3, fr(most, 1), api.OK}, {fr(most, 2), 2, fr(most, 1), api.OK}, {fr(-most, 4), 4, fr(-most, 1), api.OK}, {fr(1<<30, 3), 3, fr(1<<30, 1), api.OK}, {fr(1, 1<<30), 1 << 30, fr(1, 1), api.OK}, // it leaves the range only unreduced
		{fr(1<<30, 1), 2, none, api.ErrRange}, {fr(-1<<30, 1), 2, none, api.ErrRange}, {fr(most, 1), 2, none, api.ErrRange}, {fr(most, 1), most, none, api.ErrRange}, {fr(most, 1), -most, none, api.ErrRange}, {fr(2, 1), most, none, api.ErrRange}, {fr(most, 2), 3, none, api.ErrRange}, {fr(most, 3), 2, none, api.ErrRange}, {fr(most, 4), -6, none, api.ErrRange}, {fr(46341, 1), 46341, none, api.ErrRange}, {fr(most-1, most), 2, none, api.ErrRange},
		{fr(3, 2), most + 1, none, api.ErrRange}, {fr(3, 2), -most - 1, none, api.ErrRange}, {fr(0, 1), most + 1, none, api.ErrRange}, {fr(0, 1), -most - 1, none, api.ErrRange}, {fr(0, 1), math.MinInt64, none, api.ErrRange}, {fr(0, 1), math.MaxInt64, none, api.ErrRange}, {fr(1, 2), most + 1, none, api.ErrRange}, {fr(1, most), 1 << 32, none, api.ErrRange}, // the count alone
	} {
		if got, err := Total(c.mean, c.count); got != c.want || err != c.err {
			t.Errorf("Total(%v, %d): %v, %d, want %v, %d", c.mean, c.count, got, err, c.want, c.err)
		}
	}
}

func TestP19_3TotalOfUnfitOnes(t *testing.T) {
	for _, f := range unfit() {
		for _, n := range numbers() { // also where the count does not fit: ErrForm is named first
			if got, err := Total(f, n); got != none || err != api.ErrForm {
				t.Errorf("Total(%v, %d): %v, %d", f, n, got, err)
			}
		}
	}
}

func TestP19_3TotalIsTheProduct(t *testing.T) {
	check := func(f api.Frac, n int64) {
		want, wantErr := sayTotal(f, n)
		if got, err := Total(f, n); got != want || err != wantErr {
			t.Errorf("Total(%v, %d): %v, %d, want %v, %d", f, n, got, err, want, wantErr)
		}
	}
	for _, f := range append(edges(), unfit()...) {
		for _, n := range numbers() {
			check(f, n)
		}
	}
	r := rand.New(rand.NewSource(193))
	for i := range 40000 {
		f := drawn(r, []int64{5, 100, 50000, most}[i%4])
		check(f, int64(r.Uint64())>>uint(i%64))
		check(f, f.Den)
		check(f, f.Den*(r.Int63n(9)-4))
		check(f, f.Den/2*r.Int63n(5))
	}
}

func TestP19_4VarianceExamples(t *testing.T) {
	for _, c := range []struct {
		second, mean, want api.Frac
		err                api.Errno
	}{
		{fr(5, 2), fr(3, 2), fr(1, 4), api.OK}, {fr(5, 2), fr(-3, 2), fr(1, 4), api.OK}, {fr(9, 1), fr(3, 1), fr(0, 1), api.OK}, {fr(0, 1), fr(0, 1), fr(0, 1), api.OK}, {fr(9, 4), fr(-3, 2), fr(0, 1), api.OK}, {fr(7, 3), fr(0, 1), fr(7, 3), api.OK},
		{fr(0, 1), fr(3, 2), fr(-9, 4), api.OK}, {fr(2, 1), fr(3, 2), fr(-1, 4), api.OK}, {fr(-1, 1), fr(1, 1), fr(-2, 1), api.OK}, {fr(-5, 2), fr(1, 2), fr(-11, 4), api.OK}, // below 0
		{fr(3, 4), fr(1, 2), fr(1, 2), api.OK}, {fr(5, 4), fr(1, 2), fr(1, 1), api.OK}, // it is reduced
		{fr(46340*46340, 1), fr(46340, 1), fr(0, 1), api.OK}, {fr(most, 1), fr(46340, 1), fr(most-46340*46340, 1), api.OK}, {fr(0, 1), fr(-46340, 1), fr(-46340*46340, 1), api.OK}, {fr(1, 46340*46340), fr(1, 46340), fr(0, 1), api.OK}, {fr(most, 1), fr(0, 1), fr(most, 1), api.OK}, {fr(-most, 1), fr(0, 1), fr(-most, 1), api.OK}, {fr(1, most), fr(0, 1), fr(1, most), api.OK},
		{fr(0, 1), fr(46341, 1), none, api.ErrRange}, {fr(most, 1), fr(46341, 1), none, api.ErrRange}, {fr(most, 1), fr(-46341, 1), none, api.ErrRange}, {fr(0, 1), fr(1, 46341), none, api.ErrRange}, {fr(0, 1), fr(46341, 46340), none, api.ErrRange}, {fr(0, 1), fr(46340, 46341), none, api.ErrRange}, {fr(0, 1), fr(most, 1), none, api.ErrRange}, {fr(1, 1), fr(1, most), none, api.ErrRange}, // the square alone
		{fr(-most, 1), fr(1, 1), none, api.ErrRange}, {fr(-most+1, 1), fr(1, 1), fr(-most, 1), api.OK}, {fr(most, 1), fr(1, 2), none, api.ErrRange}, {fr(1, most), fr(1, 1), fr(1-most, most), api.OK}, {fr(1, most), fr(1, 2), none, api.ErrRange}, {fr(1, 46340*46340), fr(1, 46339), none, api.ErrRange}, {fr(-1, most), fr(1, 1), none, api.ErrRange}, // the difference alone
	} {
		if got, err := Variance(c.second, c.mean); got != c.want || err != c.err {
			t.Errorf("Variance(%v, %v): %v, %d, want %v, %d", c.second, c.mean, got, err, c.want, c.err)
		}
	}
}

// A square out of its range is told, also where the difference would come back into it.
func TestP19_4VarianceAsksTheSquare(t *testing.T) {
	second, mean := fr(most, 1), fr(46341, 1) // the square is 2147488281, the difference -4634
	if x := new(big.Rat).Sub(rat(second), new(big.Rat).Mul(rat(mean), rat(mean))); x.Cmp(big.NewRat(-4634, 1)) != 0 {
		t.Fatal("the case itself is wrong")
	}
	if got, err := Variance(second, mean); got != none || err != api.ErrRange {
		t.Errorf("%v, %d", got, err)
	}
}

func TestP19_4VarianceOfUnfitOnes(t *testing.T) {
	for _, f := range unfit() {
		for _, g := range append(edges(), unfit()...) { // also where the square does not fit: ErrForm is named first
			if got, err := Variance(f, g); got != none || err != api.ErrForm {
				t.Errorf("Variance(%v, %v): %v, %d", f, g, got, err)
			}
			if got, err := Variance(g, f); got != none || err != api.ErrForm {
				t.Errorf("Variance(%v, %v): %v, %d", g, f, got, err)
			}
		}
	}
}

func TestP19_4VarianceIsTheDifference(t *testing.T) {
	check := func(second, mean api.Frac) {
		want, wantErr := sayVariance(second, mean)
		if got, err := Variance(second, mean); got != want || err != wantErr {
			t.Errorf("Variance(%v, %v): %v, %d, want %v, %d", second, mean, got, err, want, wantErr)
		}
	}
	all := append(edges(), unfit()...)
	for _, f := range all {
		for _, g := range all {
			check(f, g)
		}
	}
	r := rand.New(rand.NewSource(194))
	for i := range 40000 {
		mean := drawn(r, []int64{5, 100, 1000, 50000, most}[i%5])
		check(drawn(r, []int64{5, 100, 40000, most}[i%4]), mean)
		if square, err := sayFrac(new(big.Rat).Mul(rat(mean), rat(mean))); err == api.OK {
			check(square, mean)
			check(fr(-square.Num, square.Den), mean)
		}
	}
}
