package derive

import (
	"math/rand"
	"slices"
	"testing"

	"eddy/api"
	"eddy/frac"
)

// someScales are scales over their whole range.
func someScales() []int64 {
	l := []int64{5, 7, 12, 100, 360, 1000, 1023, 65536, mostScale / 2, mostScale - 1, mostScale}
	for scale := int64(1); scale <= 4; scale++ {
		l = append(l, scale)
	}
	return l
}

// someInputs are inputs up to an end, on both sides of 0.
func someInputs(end int64) []int64 {
	l := []int64{0, 1, -1, 2, -2, 3, 10, -46, 999, end / 2, end - 1, end, 1 - end, -end}
	return slices.DeleteFunc(l, func(x int64) bool { return x > end || x < -end })
}

func TestP19_7MeanOfAnInput(t *testing.T) {
	for _, scale := range someScales() {
		for _, x := range someInputs(most / scale) {
			e, err := Input(api.KMean, x, scale)
			if err != api.OK {
				t.Fatalf("Input(KMean, %d, %d): %d", x, scale, err)
			}
			if f, err := Mean(e, scale); f != fr(x, 1) || err != api.OK {
				t.Errorf("scale %d: the mean of %d is %v, %d", scale, x, f, err)
			}
		}
	}
}

// unitParts are what n nodes may have of a unit's input, that is cut evenly: each has one more or less than the part, at most.
func unitParts(input, n int64) []int64 {
	var l []int64
	for e := input/n - 2; e <= input/n+2; e++ {
		if off := e*n - input; -n <= off && off <= n {
			l = append(l, e)
		}
	}
	return l
}

func TestP19_7CountOfAUnit(t *testing.T) {
	for n := int64(1); n <= mostNodes; n++ {
		first := 2 * n * (n + 1)
		for _, scale := range []int64{first, first + 1, first + n/2, first + n - 1, first + n, 2*first - 1, 10*first + 7, mostScale - 1, mostScale} {
			if scale > mostScale || scale < first {
				continue
			}
			input, err := Input(api.KCount, 1, scale)
			if err != api.OK {
				t.Fatalf("Input(KCount, 1, %d): %d", scale, err)
			}
			parts := unitParts(input, n)
			if len(parts) < 2 {
				t.Fatalf("%d of %d: parts %v", n, scale, parts)
			}
			for _, e := range parts {
				if got, err := Count(e, scale); got != n || err != api.OK {
					t.Errorf("scale %d, cut over %d nodes, a part %d: %d, %d", scale, n, e, got, err)
				}
			}
		}
	}
}

// A unit that is cut evenly in whole numbers: parts that differ by one at most, and come to the whole together.
func TestP19_7CountAtEachNode(t *testing.T) {
	for n := int64(1); n <= api.MaxNodes; n++ {
		for scale := 2 * n * (n + 1); scale <= 2*n*(n+1)+200; scale++ {
			rest, _ := Input(api.KCount, 1, scale)
			for left := n; left > 0; left-- {
				e := rest / left
				rest -= e
				if got, err := Count(e, scale); got != n || err != api.OK {
					t.Errorf("scale %d, %d nodes, a part %d: %d, %d", scale, n, e, got, err)
				}
			}
		}
	}
}

func TestP19_8WhereAllInputsAreTheSame(t *testing.T) {
	for _, scale := range someScales() {
		for x := int64(-46340); x <= 46340; x += 1 + 10*(x&1) {
			second, err := Input(api.KSquare, x, scale)
			if err != api.OK {
				continue
			}
			first, err := Input(api.KMean, x, scale)
			if err != api.OK {
				t.Fatalf("Input(KMean, %d, %d): %d", x, scale, err)
			}
			moment, _ := Mean(second, scale)
			mean, _ := Mean(first, scale)
			if f, err := Variance(moment, mean); f != fr(0, 1) || err != api.OK {
				t.Errorf("scale %d, all inputs %d: %v, %d", scale, x, f, err)
			}
		}
	}
	for _, x := range []int64{46340, -46340, 1, 0} {
		if f, err := Variance(fr(x*x, 1), fr(x, 1)); f != fr(0, 1) || err != api.OK {
			t.Errorf("all inputs %d: %v, %d", x, f, err)
		}
	}
}

// moves holds the means and the counts of two estimates, the lesser one first, against each other.
func moves(t *testing.T, e, more, scale int64) {
	t.Helper()
	low, err := Mean(e, scale)
	high, errToo := Mean(more, scale)
	if err != api.OK || errToo != api.OK || frac.Cmp(low, high) >= 0 {
		t.Errorf("scale %d: the means of %d and %d are %v, %d and %v, %d", scale, e, more, low, err, high, errToo)
	}
	if e <= 0 {
		return
	}
	many, err := Count(e, scale)
	few, errToo := Count(more, scale)
	if err != api.OK || errToo != api.OK || many < few {
		t.Errorf("scale %d: the counts of %d and %d are %d, %d and %d, %d", scale, e, more, many, err, few, errToo)
	}
}

func TestP19_9MeansRiseAndCountsFall(t *testing.T) {
	ends := []int64{-most, -most + 1, -mostScale, -1, 0, 1, 2, 3, 7, 1000, mostScale - 1, mostScale, 2 * mostScale, 2*mostScale + 1, most - 1, most}
	for _, scale := range someScales() {
		for i, e := range ends {
			for _, more := range ends[i+1:] {
				moves(t, e, more, scale)
			}
		}
		for e := int64(-50); e < 3000; e++ {
			moves(t, e, e+1, scale)
		}
	}
	r := rand.New(rand.NewSource(199))
	for range 20000 {
		e, more := r.Int63n(2*most+1)-most, r.Int63n(2*most+1)-most
		if e != more {
			moves(t, min(e, more), max(e, more), r.Int63n(mostScale)+1)
		}
	}
	greatest, _ := Count(1, mostScale)
	least, _ := Count(most, mostScale)
	if greatest != mostScale || least != 0 {
		t.Errorf("counts go from %d to %d", greatest, least)
	}
}
