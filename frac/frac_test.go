package frac

import (
	"math"
	"math/big"
	"math/rand"
	"strconv"
	"testing"

	"eddy/api"
)

const most = 2147483647

var none api.Frac

func fr(n, d int64) api.Frac { return api.Frac{Num: n, Den: d} }

func rat(f api.Frac) *big.Rat { return big.NewRat(f.Num, f.Den) }

// part tells by the document's words whether a number may be a part of a fraction.
func part(x *big.Int) bool { return x.IsInt64() && x.Int64() >= -most && x.Int64() <= most }

// told is what a call that reckons has to answer, if x comes.
func told(x *big.Rat) (api.Frac, api.Errno) {
	if !part(x.Num()) || !part(x.Denom()) {
		return none, api.ErrRange
	}
	return fr(x.Num().Int64(), x.Denom().Int64()), api.OK
}

// edges are valid fractions at the ends of the ranges, and some between.
func edges() []api.Frac {
	return []api.Frac{
		fr(-most, 1), fr(-most, 2), fr(-most, most-1), fr(-most+1, most), fr(-46341, 46340), fr(-7, 2), fr(-5, 2), fr(-2, 1), fr(-3, 2), fr(-1, 1), fr(-1, 2), fr(-1, 3), fr(-1, most),
		fr(0, 1), fr(1, most), fr(1, most-1), fr(1, 3), fr(2, 5), fr(1, 2), fr(2, 3), fr(1, 1), fr(3, 2), fr(2, 1), fr(5, 2), fr(7, 3), fr(355, 113), fr(46340, 46341), fr(most-1, most), fr(most, most-1), fr(most, 2), fr(most-1, 1), fr(most, 1),
	}
}

// wholes are numbers at and around the ends of the ranges.
func wholes() []int64 {
	return []int64{
		math.MinInt64, math.MinInt64 + 1, -1 << 62, -1 << 40, -1 << 32, -most - 2, -most - 1, -most, -most + 1, -1 << 30, -7, -4, -3, -2, -1,
		0, 1, 2, 3, 4, 6, 7, 1 << 10, 1 << 30, most - 1, most, most + 1, most + 2, 1 << 32, 1 << 40, 1 << 62, math.MaxInt64 - 1, math.MaxInt64,
	}
}

// drawn is a valid fraction with parts below top.
func drawn(r *rand.Rand, top int64) api.Frac {
	for {
		x := big.NewRat(r.Int63n(2*top+1)-top, r.Int63n(top)+1)
		if f, err := told(x); err == api.OK {
			return f
		}
	}
}

// pairs hands out pairs of edges, and of fractions by a fixed seed, small ones and great ones.
func pairs(yield func(a, b api.Frac) bool) {
	for _, a := range edges() {
		for _, b := range edges() {
			if !yield(a, b) {
				return
			}
		}
	}
	r := rand.New(rand.NewSource(2))
	for i := range 20000 {
		top := []int64{5, 100, 40000, most}[i%4]
		if !yield(drawn(r, top), drawn(r, top)) {
			return
		}
	}
}

// unfit are fractions that are none: nothing is promised of them, but that a call ends and does not panic.
func unfit() []api.Frac {
	var l []api.Frac
	for _, n := range wholes() {
		for _, d := range wholes() {
			l = append(l, fr(n, d))
		}
	}
	return l
}

func TestP2_1Valid(t *testing.T) {
	for _, c := range []struct {
		f    api.Frac
		want bool
	}{
		{fr(0, 1), true}, {fr(1, 1), true}, {fr(-1, 1), true}, {fr(most, 1), true}, {fr(-most, 1), true}, {fr(1, most), true}, {fr(-1, most), true}, {fr(most-1, most), true}, {fr(-3, 2), true},
		{none, false}, {fr(0, 2), false}, {fr(0, -1), false}, {fr(1, 0), false}, {fr(2, 4), false}, {fr(-2, 4), false}, {fr(1, -1), false}, {fr(most, most), false}, {fr(most-1, 2), false},
		{fr(most+1, 1), false}, {fr(-most-1, 1), false}, {fr(1, most+1), false}, {fr(math.MinInt64, 1), false}, {fr(math.MaxInt64, 2), false}, {fr(1, math.MinInt64), false}, {fr(1, math.MaxInt64), false}, {fr(1<<32+1, 1), false}, {fr(1, 1<<32+1), false},
	} {
		if got := Valid(c.f); got != c.want {
			t.Errorf("Valid(%v): %v", c.f, got)
		}
	}
	for _, f := range unfit() {
		x, err := api.Frac{}, api.ErrZero
		if f.Den != 0 {
			x, err = told(rat(f))
		}
		if want := err == api.OK && x == f; Valid(f) != want {
			t.Errorf("Valid(%v): %v", f, !want)
		}
	}
}

func TestP2_2MakeExamples(t *testing.T) {
	for _, c := range []struct {
		n, d int64
		want api.Frac
		err  api.Errno
	}{
		{6, -4, fr(-3, 2), api.OK}, {0, -7, fr(0, 1), api.OK}, {1, 0, none, api.ErrZero}, {0, 0, none, api.ErrZero}, {math.MinInt64, 0, none, api.ErrZero},
		{math.MinInt64, math.MinInt64, fr(1, 1), api.OK}, {1 << 40, 1 << 10, fr(1<<30, 1), api.OK}, {1 << 40, 3, none, api.ErrRange},
		{math.MinInt64, 1, none, api.ErrRange}, {math.MinInt64, -1, none, api.ErrRange}, {1, math.MinInt64, none, api.ErrRange}, {0, math.MinInt64, fr(0, 1), api.OK}, {math.MinInt64, 1 << 62, fr(-2, 1), api.OK}, {1 << 62, math.MinInt64, fr(-1, 2), api.OK},
		{math.MaxInt64, math.MaxInt64, fr(1, 1), api.OK}, {math.MaxInt64, math.MinInt64, none, api.ErrRange}, {-math.MaxInt64, math.MaxInt64, fr(-1, 1), api.OK}, {math.MinInt64, 1 << 33, fr(-1<<30, 1), api.OK}, {math.MinInt64, 1 << 32, none, api.ErrRange},
		{most, 1, fr(most, 1), api.OK}, {-most, 1, fr(-most, 1), api.OK}, {most + 1, 1, none, api.ErrRange}, {-most - 1, 1, none, api.ErrRange}, {1, most, fr(1, most), api.OK}, {1, most + 1, none, api.ErrRange}, {-1, -most, fr(1, most), api.OK}, {2, most + 1, fr(1, 1<<30), api.OK},
	} {
		if got, err := Make(c.n, c.d); got != c.want || err != c.err {
			t.Errorf("Make(%d, %d): %v %v", c.n, c.d, got, err)
		}
	}
}

func TestP2_2MakeIsTheNumber(t *testing.T) {
	check := func(n, d int64) {
		if d == 0 {
			return
		}
		want, wantErr := told(big.NewRat(n, d))
		if got, err := Make(n, d); got != want || err != wantErr {
			t.Errorf("Make(%d, %d): %v %v, not %v %v", n, d, got, err, want, wantErr)
		}
	}
	for _, n := range wholes() {
		for _, d := range wholes() {
			check(n, d)
		}
	}
	r := rand.New(rand.NewSource(3))
	for i := range 20000 {
		by := uint(i % 60)
		check(int64(r.Uint64())>>by, int64(r.Uint64())>>by)
		f, times := drawn(r, most), r.Int63n(1<<32)+1
		check(f.Num*times, f.Den*times)
		check(f.Num*times, -f.Den*times)
	}
}

type reckon func(a, b api.Frac) (api.Frac, api.Errno)

func TestP2_3ReckoningExamples(t *testing.T) {
	for _, c := range []struct {
		name string
		do   reckon
		a, b api.Frac
		want api.Frac
		err  api.Errno
	}{
		{"Add", Add, fr(1, 6), fr(1, 3), fr(1, 2), api.OK},
		{"Add", Add, fr(most, 1), fr(1, 1), none, api.ErrRange},
		{"Add", Add, fr(most, 1), fr(-1, 1), fr(most-1, 1), api.OK},
		{"Add", Add, fr(1, most), fr(1, most-1), none, api.ErrRange},
		{"Add", Add, fr(most, most-1), fr(most, most-1), fr(most, (most-1)/2), api.OK},
		{"Sub", Sub, fr(1, 2), fr(1, 2), fr(0, 1), api.OK},
		{"Sub", Sub, fr(-most, 1), fr(1, 1), none, api.ErrRange},
		{"Sub", Sub, fr(-most, 1), fr(-most, 1), fr(0, 1), api.OK},
		{"Mul", Mul, fr(-2, 3), fr(3, 4), fr(-1, 2), api.OK},
		{"Mul", Mul, fr(most, 2), fr(2, most), fr(1, 1), api.OK},
		{"Mul", Mul, fr(most, 1), fr(2, 1), none, api.ErrRange},
		{"Mul", Mul, fr(1, most), fr(1, 2), none, api.ErrRange},
		{"Mul", Mul, fr(0, 1), fr(-1, most), fr(0, 1), api.OK},
		{"Div", Div, fr(1, 2), fr(-3, 4), fr(-2, 3), api.OK},
		{"Div", Div, fr(1, 2), fr(0, 1), none, api.ErrZero},
		{"Div", Div, fr(0, 1), fr(0, 1), none, api.ErrZero},
		{"Div", Div, fr(0, 1), fr(-5, 1), fr(0, 1), api.OK},
		{"Div", Div, fr(1, 1), fr(-most, 1), fr(-1, most), api.OK},
		{"Div", Div, fr(1, 2), fr(most, 1), none, api.ErrRange},
	} {
		if got, err := c.do(c.a, c.b); got != c.want || err != c.err {
			t.Errorf("%s(%v, %v): %v %v", c.name, c.a, c.b, got, err)
		}
	}
}

func TestP2_3ReckoningIsTheNumber(t *testing.T) {
	for _, c := range []struct {
		name string
		do   reckon
		by   func(z, a, b *big.Rat) *big.Rat
	}{
		{"Add", Add, (*big.Rat).Add}, {"Sub", Sub, (*big.Rat).Sub}, {"Mul", Mul, (*big.Rat).Mul}, {"Div", Div, (*big.Rat).Quo},
	} {
		for a, b := range pairs {
			if c.name == "Div" && b.Num == 0 {
				continue
			}
			want, wantErr := told(c.by(new(big.Rat), rat(a), rat(b)))
			if got, err := c.do(a, b); got != want || err != wantErr {
				t.Errorf("%s(%v, %v): %v %v, not %v %v", c.name, a, b, got, err, want, wantErr)
			}
		}
	}
}

func TestP2_4Cmp(t *testing.T) {
	if Cmp(fr(1, 3), fr(2, 5)) != -1 || Cmp(fr(1, 2), fr(1, 2)) != 0 || Cmp(fr(-1, 3), fr(-2, 5)) != 1 || Cmp(fr(most, 1), fr(-most, 1)) != 1 || Cmp(fr(most-1, most), fr(most-2, most-1)) != 1 {
		t.Error("Cmp")
	}
	for a, b := range pairs {
		if got, want := Cmp(a, b), rat(a).Cmp(rat(b)); got != want {
			t.Errorf("Cmp(%v, %v): %d, not %d", a, b, got, want)
		}
	}
}

func TestP2_5WholeNumbersExamples(t *testing.T) {
	for _, c := range []struct {
		f                  api.Frac
		floor, ceil, round int64
	}{
		{fr(5, 2), 2, 3, 3}, {fr(-5, 2), -3, -2, -3}, {fr(-1, 2), -1, 0, -1}, {fr(1, 2), 0, 1, 1}, {fr(7, 3), 2, 3, 2}, {fr(8, 3), 2, 3, 3}, {fr(-7, 3), -3, -2, -2}, {fr(-8, 3), -3, -2, -3},
		{fr(0, 1), 0, 0, 0}, {fr(4, 1), 4, 4, 4}, {fr(-4, 1), -4, -4, -4}, {fr(1, most), 0, 1, 0}, {fr(-1, most), -1, 0, 0}, {fr(most, 1), most, most, most}, {fr(-most, 1), -most, -most, -most},
		{fr(most, 2), 1<<30 - 1, 1 << 30, 1 << 30}, {fr(-most, 2), -1 << 30, -1<<30 + 1, -1 << 30}, {fr(most-1, most), 0, 1, 1}, {fr(1<<30-1, most), 0, 1, 0}, {fr(1<<30, most), 0, 1, 1},
	} {
		if a, b, r := Floor(c.f), Ceil(c.f), Round(c.f); a != c.floor || b != c.ceil || r != c.round {
			t.Errorf("%v: %d %d %d", c.f, a, b, r)
		}
	}
}

// distance is how far a whole number is from a fraction.
func distance(n int64, f api.Frac) *big.Rat {
	d := new(big.Rat).Sub(new(big.Rat).SetInt64(n), rat(f))
	return d.Abs(d)
}

func TestP2_5RoundIsTheNearest(t *testing.T) {
	half := big.NewRat(1, 2)
	for f := range pairs {
		n := Round(f)
		far := distance(n, f).Cmp(half)
		if far > 0 {
			t.Errorf("Round(%v): %d", f, n)
		}
		if far == 0 && new(big.Rat).Abs(rat(f)).Cmp(new(big.Rat).SetInt64(max(n, -n))) > 0 {
			t.Errorf("Round(%v): %d, which is the one nearer to 0", f, n)
		}
	}
}

func TestP2_9TextAndParse(t *testing.T) {
	for _, c := range []struct {
		f api.Frac
		s string
	}{
		{fr(-3, 2), "-3/2"}, {fr(7, 1), "7"}, {fr(0, 1), "0"}, {fr(-1, 1), "-1"}, {fr(1, 2), "1/2"}, {fr(most, 1), "2147483647"}, {fr(-most, 1), "-2147483647"}, {fr(-1, most), "-1/2147483647"}, {fr(10, 11), "10/11"},
	} {
		if got := Text(c.f); got != c.s {
			t.Errorf("Text(%v): %q", c.f, got)
		}
		if got, ok := Parse(c.s); got != c.f || !ok {
			t.Errorf("Parse(%q): %v %v", c.s, got, ok)
		}
	}
	for _, s := range []string{
		"", "/", "-", "-/2", "/2", "1/", "1/0", "0/0", "1/-2", "4/2", "2/4", "0/1", "0/2", "1/1", "-0", "-0/1", "+1", "+1/2", "1/+2", "01", "-01", "1/02", "--1", "1//2", "1/2/3", "1/2/", " 1", "1 ", "1/ 2", "1_0", "0x1", "1e3", "1.5", "a", "１", "1\x00",
		"2147483648", "-2147483648", "1/2147483648", "9223372036854775807", "-9223372036854775808", "9223372036854775808", "18446744073709551617", "1/18446744073709551618", "99999999999999999999999999999999",
	} {
		if got, ok := Parse(s); got != none || ok {
			t.Errorf("Parse(%q): %v %v", s, got, ok)
		}
	}
}

func TestP2_9ParseTakesWhatTextWritesAlone(t *testing.T) {
	for n := int64(-40); n <= 40; n++ {
		for d := int64(-3); d <= 40; d++ {
			s := strconv.FormatInt(n, 10) + "/" + strconv.FormatInt(d, 10)
			f := fr(n, d)
			got, ok := Parse(s)
			if want := d > 1 && Valid(f); ok != want || want && got != f || !want && got != none {
				t.Errorf("Parse(%q): %v %v", s, got, ok)
			}
		}
	}
}

func TestP2_11Field(t *testing.T) {
	r := rand.New(rand.NewSource(4))
	sure := func(f api.Frac, err api.Errno) api.Frac {
		if err != api.OK {
			t.Fatal(err)
		}
		return f
	}
	for range 5000 {
		a, b, c := drawn(r, 200), drawn(r, 200), drawn(r, 200) // whatever comes of three such is within MaxPart
		if sure(Add(a, b)) != sure(Add(b, a)) || sure(Mul(a, b)) != sure(Mul(b, a)) {
			t.Errorf("%v %v: order", a, b)
		}
		if sure(Add(sure(Add(a, b)), c)) != sure(Add(a, sure(Add(b, c)))) || sure(Mul(sure(Mul(a, b)), c)) != sure(Mul(a, sure(Mul(b, c)))) {
			t.Errorf("%v %v %v: grouping", a, b, c)
		}
		if x, err := Mul(a, sure(Add(b, c))); x != sure(Add(sure(Mul(a, b)), sure(Mul(a, c)))) || err != api.OK {
			t.Errorf("%v %v %v: a product of a sum", a, b, c)
		}
		if sure(Sub(sure(Add(a, b)), b)) != a {
			t.Errorf("%v %v: Sub does not take back Add", a, b)
		}
		if b.Num != 0 && sure(Div(sure(Mul(a, b)), b)) != a {
			t.Errorf("%v %v: Div does not take back Mul", a, b)
		}
	}
}

func TestP2_12Order(t *testing.T) {
	l := edges()
	for _, a := range l {
		for _, b := range l {
			if Cmp(a, b) != -Cmp(b, a) || (Cmp(a, b) == 0) != (a == b) {
				t.Errorf("%v %v: no order", a, b)
			}
			if d, err := Sub(a, b); err == api.OK && Cmp(d, fr(0, 1)) != Cmp(a, b) {
				t.Errorf("%v %v: not the sign of the difference %v", a, b, d)
			}
			for _, c := range l {
				if Cmp(a, b) <= 0 && Cmp(b, c) <= 0 && Cmp(a, c) > 0 {
					t.Errorf("%v %v %v: no order", a, b, c)
				}
				x, wrong := Add(a, c)
				y, wrongToo := Add(b, c)
				if wrong == api.OK && wrongToo == api.OK && Cmp(x, y) != Cmp(a, b) {
					t.Errorf("%v %v and %v more: another order", a, b, c)
				}
			}
		}
	}
}

func TestP2_13WholeNumbersAround(t *testing.T) {
	one := big.NewRat(1, 1)
	for f := range pairs {
		low := new(big.Rat).SetInt64(Floor(f))
		if low.Cmp(rat(f)) > 0 || distance(Floor(f), f).Cmp(one) >= 0 {
			t.Errorf("Floor(%v): %d", f, Floor(f))
		}
		other := fr(-f.Num, f.Den)
		if Ceil(f) != -Floor(other) || Round(other) != -Round(f) {
			t.Errorf("%v: Ceil %d, Round %d, of its negative %d", f, Ceil(f), Round(f), Round(other))
		}
		if high := new(big.Rat).SetInt64(Ceil(f)); high.Cmp(rat(f)) < 0 || distance(Ceil(f), f).Cmp(one) >= 0 {
			t.Errorf("Ceil(%v): %d", f, Ceil(f))
		}
	}
}

func TestRule0_1UnfitFractionsDoNotPanic(t *testing.T) {
	l := unfit()
	for i, f := range l {
		Floor(f)
		Ceil(f)
		Round(f)
		Text(f)
		Terms(f)
		for _, g := range []api.Frac{f, l[(i*7+3)%len(l)], none, fr(1, 2), fr(math.MinInt64, -1)} {
			Add(f, g)
			Sub(f, g)
			Mul(f, g)
			Div(f, g)
			Cmp(f, g)
			Near(f, g)
			Near(g, f)
		}
	}
}
