package num

import (
	"math"
	"math/rand"
	"slices"
	"testing"

	"eddy/api"
)

const most = api.MaxFlow

// edges are numbers at and around the ends of the ranges, and some between.
func edges() []int64 {
	return []int64{
		math.MinInt64, math.MinInt64 + 1, -1 << 62, -1 << 32, -most - 2, -most - 1, -most, -most + 1, -1 << 30, -46341, -46340, -3, -2, -1,
		0, 1, 2, 3, 4, 7, 46340, 46341, 1 << 16, 1 << 30, most - 1, most, most + 1, most + 2, 1 << 32, 1 << 62, math.MaxInt64 - 1, math.MaxInt64,
	}
}

// pairs hands out pairs of edges, and of numbers that fit by a fixed seed.
func pairs(yield func(a, b int64) bool) {
	for _, a := range edges() {
		for _, b := range edges() {
			if !yield(a, b) {
				return
			}
		}
	}
	r := rand.New(rand.NewSource(1))
	for range 20000 {
		if !yield(r.Int63n(2*most+1)-most, r.Int63n(2*most+1)-most) {
			return
		}
	}
}

// inRange says anew, by the document's words, which numbers fit.
func inRange(x int64) bool { return x >= -2147483647 && x <= 2147483647 }

func TestP1_1Fits(t *testing.T) {
	for _, x := range edges() {
		if Fits(x) != inRange(x) {
			t.Errorf("Fits(%d): %v", x, Fits(x))
		}
	}
}

type binary func(a, b int64) (int64, api.Errno)

func TestP1_2AddSubMulExamples(t *testing.T) {
	for _, c := range []struct {
		name string
		do   binary
		a, b int64
		want int64
		err  api.Errno
	}{
		{"Add", Add, most, 1, 0, api.ErrRange},
		{"Add", Add, most, -1, 2147483646, api.OK},
		{"Add", Add, -most, -1, 0, api.ErrRange},
		{"Add", Add, -most, most, 0, api.OK},
		{"Add", Add, most + 1, -1, 0, api.ErrRange},
		{"Add", Add, -1, most + 1, 0, api.ErrRange},
		{"Add", Add, math.MinInt64, math.MinInt64, 0, api.ErrRange},
		{"Add", Add, math.MaxInt64, math.MinInt64, 0, api.ErrRange},
		{"Sub", Sub, -most, 1, 0, api.ErrRange},
		{"Sub", Sub, -most, -1, -2147483646, api.OK},
		{"Sub", Sub, most + 1, 1, 0, api.ErrRange},
		{"Sub", Sub, math.MinInt64, math.MinInt64, 0, api.ErrRange},
		{"Mul", Mul, 65536, 32768, 0, api.ErrRange},
		{"Mul", Mul, -46341, 46341, 0, api.ErrRange},
		{"Mul", Mul, 46340, 46340, 2147395600, api.OK},
		{"Mul", Mul, -1, most, -most, api.OK},
		{"Mul", Mul, 0, most + 1, 0, api.ErrRange},
		{"Mul", Mul, 1 << 32, 1 << 32, 0, api.ErrRange},
	} {
		if x, e := c.do(c.a, c.b); x != c.want || e != c.err {
			t.Errorf("%s(%d, %d): %d, %v; want %d, %v", c.name, c.a, c.b, x, e, c.want, c.err)
		}
	}
}

func TestP1_2AddSubMulEverywhere(t *testing.T) {
	check := func(name string, do binary, a, b, raw int64) {
		want, err := int64(0), api.ErrRange
		if inRange(a) && inRange(b) && inRange(raw) {
			want, err = raw, api.OK
		}
		if x, e := do(a, b); x != want || e != err {
			t.Errorf("%s(%d, %d): %d, %v; want %d, %v", name, a, b, x, e, want, err)
		}
	}
	for a, b := range pairs { // what is raw may wrap round only where a or b does not fit
		check("Add", Add, a, b, a+b)
		check("Sub", Sub, a, b, a-b)
		check("Mul", Mul, a, b, a*b)
		check("Mul", Mul, a%46343, b%46343, (a%46343)*(b%46343))
	}
}

func TestP1_3Half(t *testing.T) {
	for _, c := range []struct {
		a, b, want int64
		err        api.Errno
	}{
		{7, 2, 2, api.OK}, {2, 7, -2, api.OK}, {3, 4, 0, api.OK}, {4, 3, 0, api.OK}, {0, 0, 0, api.OK},
		{most, -most, most, api.OK}, {-most, most, -most, api.OK}, {most, -most + 1, most - 1, api.OK},
		{most + 1, 0, 0, api.ErrRange}, {0, most + 1, 0, api.ErrRange}, {-most - 1, 0, 0, api.ErrRange}, {0, -most - 1, 0, api.ErrRange},
		{math.MinInt64, math.MaxInt64, 0, api.ErrRange}, {most + 1, most + 1, 0, api.ErrRange},
	} {
		if x, e := Half(c.a, c.b); x != c.want || e != c.err {
			t.Errorf("Half(%d, %d): %d, %v; want %d, %v", c.a, c.b, x, e, c.want, c.err)
		}
	}
}

func TestP1_4Sum(t *testing.T) {
	full := func(x int64, n int) []int64 { return slices.Repeat([]int64{x}, n) }
	for _, c := range []struct {
		name string
		l    []int64
		want int64
		err  api.Errno
	}{
		{"of nil", nil, 0, api.OK},
		{"of none", []int64{}, 0, api.OK},
		{"over the end and back", []int64{most, 5, -5}, most, api.OK},
		{"below the end and back", []int64{-most, -most, most}, -most, api.OK},
		{"far over the end and back", slices.Concat(full(most, 1000), full(-most, 1000), []int64{7}), 7, api.OK},
		{"one too many", []int64{most, 1}, 0, api.ErrRange},
		{"one too few", []int64{-1, -most}, 0, api.ErrRange},
		{"a whole turn of 2^32", slices.Concat(full(most, 2), []int64{2}), 0, api.ErrRange},
		{"first does not fit", []int64{most + 1, -1}, 0, api.ErrRange},
		{"last does not fit", []int64{-5, most + 1}, 0, api.ErrRange},
		{"middle does not fit", []int64{1, -most - 1, 5}, 0, api.ErrRange},
		{"wrapping round to nought", []int64{math.MinInt64, math.MinInt64}, 0, api.ErrRange},
	} {
		before := slices.Clone(c.l)
		if x, e := Sum(c.l); x != c.want || e != c.err {
			t.Errorf("Sum %s: %d, %v; want %d, %v", c.name, x, e, c.want, c.err)
		}
		if !slices.Equal(before, c.l) {
			t.Errorf("Sum %s changes its list", c.name)
		}
	}
}

func TestP1_8EitherWayRoundAndUndone(t *testing.T) {
	for a, b := range pairs {
		s, es := Add(a, b)
		if x, e := Add(b, a); x != s || e != es {
			t.Errorf("Add(%d, %d) hangs on the order", a, b)
		}
		p, ep := Mul(a, b)
		if x, e := Mul(b, a); x != p || e != ep {
			t.Errorf("Mul(%d, %d) hangs on the order", a, b)
		}
		if es != api.OK {
			continue
		}
		if x, e := Sub(s, b); x != a || e != api.OK {
			t.Errorf("Sub does not undo Add(%d, %d): %d, %v", a, b, x, e)
		}
	}
}

func TestP1_9HalfEvensOut(t *testing.T) {
	for a, b := range pairs {
		h, e := Half(a, b)
		if e != api.OK {
			continue
		}
		x, y := a-h, b+h
		if !inRange(x) || !inRange(y) {
			t.Errorf("behind Half(%d, %d): %d and %d do not fit", a, b, x, y)
		}
		if d := x - y; d < -1 || d > 1 {
			t.Errorf("behind Half(%d, %d): %d and %d differ by more than 1", a, b, x, y)
		}
		if x+y != a+b {
			t.Errorf("behind Half(%d, %d): the sum is another one", a, b)
		}
		if h == 0 {
			continue
		}
		lower, ok := Drop(Squares([]int64{a, b}), Squares([]int64{x, y}))
		if !ok || Less(lower, api.Wide{Lo: 2}) {
			t.Errorf("behind Half(%d, %d): the squares are lower by %v, %v", a, b, lower, ok)
		}
	}
}

func TestP1_10HalfTurnedRound(t *testing.T) {
	for a, b := range pairs {
		h, e := Half(a, b)
		if x, f := Half(b, a); x != -h || f != e {
			t.Errorf("Half(%d, %d): %d, %v; Half(%d, %d): %d, %v", a, b, h, e, b, a, x, f)
		}
	}
}
