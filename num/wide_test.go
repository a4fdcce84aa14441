package num

import (
	"math"
	"math/big"
	"math/rand"
	"slices"
	"strings"
	"testing"

	"eddy/api"
)

const ones = math.MaxUint64

// great is a wide number, reckoned by the library.
func great(a api.Wide) *big.Int {
	x := new(big.Int).SetUint64(a.Hi)
	return x.Lsh(x, 64).Add(x, new(big.Int).SetUint64(a.Lo))
}

// beyond is 2^128.
func beyond() *big.Int { return new(big.Int).Lsh(big.NewInt(1), 128) }

// wides are numbers at and around the ends of the parts, and some by a fixed seed.
func wides() []api.Wide {
	var l []api.Wide
	for _, hi := range []uint64{0, 1, 9, 10, 1 << 63, ones - 1, ones} {
		for _, lo := range []uint64{0, 1, 9, 10, 99, 100, 1 << 63, ones - 1, ones} {
			l = append(l, api.Wide{Hi: hi, Lo: lo})
		}
	}
	r := rand.New(rand.NewSource(2))
	for range 100 {
		l = append(l, api.Wide{Hi: r.Uint64() >> r.Intn(65), Lo: r.Uint64() >> r.Intn(65)})
	}
	for k := range 38 { // powers of ten and what lies just below them
		p := new(big.Int).Exp(big.NewInt(10), big.NewInt(int64(k)), nil)
		hi := new(big.Int).Rsh(p, 64).Uint64()
		lo := new(big.Int).And(p, new(big.Int).SetUint64(ones)).Uint64()
		l = append(l, api.Wide{Hi: hi, Lo: lo})
		if lo > 0 {
			l = append(l, api.Wide{Hi: hi, Lo: lo - 1})
		}
	}
	return l
}

func lists() [][]int64 {
	least := int64(math.MinInt64)
	l := [][]int64{nil, {}, {0}, {-3, 4}, {least}, {least, least}, {least, least, least, least}, {least, least, least, least, least, -1}, {math.MaxInt64, 1, least, -1}, edges()}
	r := rand.New(rand.NewSource(3))
	for n := range 60 {
		row := make([]int64, n)
		for i := range row {
			row[i] = int64(r.Uint64()) >> r.Intn(64)
		}
		l = append(l, row)
	}
	return l
}

func TestP1_5SquaresExamples(t *testing.T) {
	least := int64(math.MinInt64)
	for _, c := range []struct {
		l    []int64
		want api.Wide
	}{
		{nil, api.Wide{}}, {[]int64{-3, 4}, api.Wide{Lo: 25}},
		{[]int64{least}, api.Wide{Hi: 4611686018427387904}}, {[]int64{least, least, least, least}, api.Wide{}},
		{[]int64{1 << 32, -1}, api.Wide{Hi: 1, Lo: 1}},
	} {
		if w := Squares(c.l); w != c.want {
			t.Errorf("Squares(%v): %v; want %v", c.l, w, c.want)
		}
	}
}

func TestP1_5SquaresEverywhere(t *testing.T) {
	for _, l := range lists() {
		want := new(big.Int)
		for _, x := range l {
			b := big.NewInt(x)
			want.Add(want, b.Mul(b, b))
		}
		want.Mod(want, beyond())
		before := slices.Clone(l)
		if w := Squares(l); great(w).Cmp(want) != 0 {
			t.Errorf("Squares(%v): %v; want %v", l, great(w), want)
		}
		if !slices.Equal(before, l) {
			t.Errorf("Squares(%v) changes its list", before)
		}
	}
}

func TestP1_6PlusLessDropExamples(t *testing.T) {
	last := api.Wide{Hi: ones, Lo: ones}
	if s, ok := Plus(last, api.Wide{Lo: 1}); s != (api.Wide{}) || ok {
		t.Errorf("one over the end: %v, %v", s, ok)
	}
	if s, ok := Plus(last, api.Wide{}); s != last || !ok {
		t.Errorf("at the end: %v, %v", s, ok)
	}
	if s, ok := Plus(api.Wide{Lo: ones}, api.Wide{Lo: 1}); s != (api.Wide{Hi: 1}) || !ok {
		t.Errorf("a carry: %v, %v", s, ok)
	}
	if d, ok := Drop(api.Wide{Hi: 1}, api.Wide{Lo: 1}); d != (api.Wide{Lo: ones}) || !ok {
		t.Errorf("a borrow: %v, %v", d, ok)
	}
	if d, ok := Drop(api.Wide{Lo: 1}, api.Wide{Hi: 1}); d != (api.Wide{}) || ok {
		t.Errorf("more than there is: %v, %v", d, ok)
	}
	if d, ok := Drop(last, last); d != (api.Wide{}) || !ok {
		t.Errorf("all there is: %v, %v", d, ok)
	}
}

func TestP1_6PlusLessDropEverywhere(t *testing.T) {
	for _, a := range wides() {
		for _, b := range wides() {
			x, y := great(a), great(b)
			sum, diff := new(big.Int).Add(x, y), new(big.Int).Sub(x, y)
			s, ok := Plus(a, b)
			if fits := sum.Cmp(beyond()) < 0; ok != fits || ok && great(s).Cmp(sum) != 0 || !ok && s != (api.Wide{}) {
				t.Errorf("Plus(%v, %v): %v, %v", a, b, s, ok)
			}
			d, ok := Drop(a, b)
			if fits := diff.Sign() >= 0; ok != fits || ok && great(d).Cmp(diff) != 0 || !ok && d != (api.Wide{}) {
				t.Errorf("Drop(%v, %v): %v, %v", a, b, d, ok)
			}
			if Less(a, b) != (diff.Sign() < 0) {
				t.Errorf("Less(%v, %v): %v", a, b, Less(a, b))
			}
		}
	}
}

func TestP1_7Text(t *testing.T) {
	for _, c := range []struct {
		a    api.Wide
		want string
	}{
		{api.Wide{}, "0"}, {api.Wide{Lo: 10}, "10"}, {api.Wide{Lo: ones}, "18446744073709551615"}, {api.Wide{Hi: 1}, "18446744073709551616"},
		{api.Wide{Hi: ones, Lo: ones}, "340282366920938463463374607431768211455"},
	} {
		if s := Text(c.a); s != c.want {
			t.Errorf("Text(%v): %q; want %q", c.a, s, c.want)
		}
	}
	for _, a := range wides() {
		if s := Text(a); s != great(a).String() {
			t.Errorf("Text(%v): %q; want %q", a, s, great(a).String())
		}
	}
}

func TestP1_7ParseRefuses(t *testing.T) {
	for _, s := range []string{
		"", "01", "00", "-1", "-0", "+1", " 1", "1 ", "1\n", "1_000", "0x1", "1e3", "1.0", "a", "/", ":", "1/", "1:", "12\x00", "\xff", "\u0661", "1-",
		"340282366920938463463374607431768211456", "340282366920938463463374607431768211460", "999999999999999999999999999999999999999",
		"1000000000000000000000000000000000000000", "3402823669209384634633746074317682114550", strings.Repeat("0", 39), strings.Repeat("9", 1<<16),
	} {
		if a, e := Parse(s); a != (api.Wide{}) || e != api.ErrForm {
			t.Errorf("Parse(%.50q): %v, %v", s, a, e)
		}
	}
}

func TestP1_7ParseReads(t *testing.T) {
	for _, c := range []struct {
		s    string
		want api.Wide
	}{
		{"0", api.Wide{}}, {"9", api.Wide{Lo: 9}}, {"10", api.Wide{Lo: 10}}, {"18446744073709551616", api.Wide{Hi: 1}},
		{"340282366920938463463374607431768211455", api.Wide{Hi: ones, Lo: ones}},
	} {
		if a, e := Parse(c.s); a != c.want || e != api.OK {
			t.Errorf("Parse(%q): %v, %v; want %v", c.s, a, e, c.want)
		}
	}
}

func TestP1_11OneOrder(t *testing.T) {
	l := wides()
	slices.SortFunc(l, func(a, b api.Wide) int { return great(a).Cmp(great(b)) })
	for i, a := range l {
		for _, b := range l[i:] {
			if Less(b, a) || Less(a, b) != (a != b) {
				t.Errorf("%v and %v are in no order", a, b)
			}
		}
	}
}

func TestP1_11PlusKeepsTheOrder(t *testing.T) {
	l := wides()
	for i, a := range l {
		for j, b := range l {
			c := l[(i*7+j*13)%len(l)]
			x, okx := Plus(a, c)
			y, oky := Plus(b, c)
			if okx && oky && Less(x, y) != Less(a, b) {
				t.Errorf("Plus %v turns %v and %v round", c, a, b)
			}
		}
	}
}

func TestP1_11ThereAndBack(t *testing.T) {
	for _, a := range wides() {
		if b, e := Parse(Text(a)); b != a || e != api.OK {
			t.Errorf("%v comes back as %v, %v", a, b, e)
		}
	}
}

func TestP1_11SquaresTurnedRound(t *testing.T) {
	for _, l := range lists() {
		back := slices.Clone(l)
		slices.Reverse(back)
		if Squares(l) != Squares(back) {
			t.Errorf("Squares(%v) hangs on the order", l)
		}
	}
}
