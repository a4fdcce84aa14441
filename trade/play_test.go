package trade

import (
	"math"
	"slices"
	"testing"

	"eddy/api"
)

// counts are how often Play is asked for.
func counts() []int {
	return []int{math.MinInt, -100, -1, 0, 1, 2, 3, 99, 100, 101, 200, 1 << 32, math.MaxInt}
}

// first is a row of so many amounts, of which all but the first are 0.
func first(amount int64, n int) []int64 {
	l := make([]int64, min(max(n, 0), 100))
	if len(l) > 0 {
		l[0] = amount
	}
	return l
}

func TestP12_3Play(t *testing.T) {
	r := register(1, 2, 7)
	for name, c := range map[string]struct {
		d    deal
		n    int
		want row
	}{
		"example 3":                    {deal{2, 5, api.Reg{}, 0, 9}, 3, row{register(1, 5, -4), []int64{-4, 0, 0}, api.OK}},
		"once":                         {deal{2, 5, api.Reg{}, 0, 9}, 1, row{register(1, 5, -4), []int64{-4}, api.OK}},
		"the higher one asks first":    {deal{5, 2, api.Reg{}, 0, 9}, 2, row{register(1, 2, 4), []int64{-4, 0}, api.OK}},
		"to the one that is asked":     {deal{2, 5, r, 20, -10}, 2, row{register(2, 5, 15), []int64{8, 0}, api.OK}},
		"to the one that asks":         {deal{2, 5, r, 10, 20}, 2, row{register(2, 5, -5), []int64{-12, 0}, api.OK}},
		"even":                         {deal{2, 5, r, 14, 0}, 4, row{r, []int64{0, 0, 0, 0}, api.OK}},
		"by 1":                         {deal{2, 5, r, 15, 0}, 4, row{r, []int64{0, 0, 0, 0}, api.OK}},
		"as far as may be":             {deal{2, 5, api.Reg{}, most, -most}, 3, row{register(1, 5, most), []int64{most, 0, 0}, api.OK}},
		"as far as may be, turned":     {deal{2, 5, api.Reg{}, -most, most}, 3, row{register(1, 5, -most), []int64{-most, 0, 0}, api.OK}},
		"the last version is written":  {deal{2, 5, register(newest-1, 2, 0), 0, 9}, 3, row{register(newest, 5, -4), []int64{-4, 0, 0}, api.OK}},
		"the last version, even":       {deal{2, 5, register(newest, 2, 0), 3, 3}, 3, row{register(newest, 2, 0), []int64{0, 0, 0}, api.OK}},
		"the last version, uneven":     {deal{2, 5, register(newest, 2, 0), 0, 9}, 3, row{err: api.ErrRange}},
		"the last version, once":       {deal{2, 5, register(newest, 2, 0), 0, 9}, 1, row{err: api.ErrRange}},
		"the last version, nobody":     {deal{2, 5, register(newest, 2, 0), 0, 9}, 0, row{register(newest, 2, 0), nil, api.OK}},
		"one node":                     {deal{2, 2, api.Reg{}, 0, 9}, 3, row{err: api.ErrNumber}},
		"no node":                      {deal{2, -1, api.Reg{}, 0, 9}, 3, row{err: api.ErrNumber}},
		"an unfit register":            {deal{2, 5, register(1, 3, 7), 0, 9}, 3, row{err: api.ErrNumber}},
		"rest of the one":              {deal{2, 5, api.Reg{}, most + 1, 9}, 3, row{err: api.ErrRange}},
		"rest of the other one":        {deal{2, 5, api.Reg{}, 0, math.MinInt64}, 3, row{err: api.ErrRange}},
		"an estimate out of its range": {deal{2, 5, register(1, 2, 1), -most, 0}, 3, row{err: api.ErrRange}},
		"the other one's":              {deal{2, 5, register(1, 2, 1), 0, most}, 3, row{err: api.ErrRange}},
	} {
		if got := c.d.play(c.n); !got.same(c.want) {
			t.Errorf("%s: Play of %+v, %d times: %v, want %v", name, c.d, c.n, got, c.want)
		}
	}
}

func TestP12_3HowOften(t *testing.T) {
	for _, n := range counts() {
		want := row{api.Reg{}, first(-4, n), api.OK}
		if n > 0 {
			want.r = register(1, 5, -4)
		}
		if got := (deal{2, 5, api.Reg{}, 0, 9}).play(n); !got.same(want) {
			t.Errorf("%d times: %v, want %v", n, got, want)
		}
		even := register(8, 2, 3)
		if got := (deal{2, 5, even, 3, -3}).play(n); !got.same(row{even, first(0, n), api.OK}) {
			t.Errorf("even, %d times: %v", n, got)
		}
	}
}

// The errors of Ends come also where nobody asks; the error of a Balance where one asks.
func TestP12_3ErrorsHoweverOften(t *testing.T) {
	for _, n := range counts() {
		for _, c := range []struct {
			d    deal
			want api.Errno
		}{
			{deal{2, 2, api.Reg{}, 0, 9}, api.ErrNumber},
			{deal{16, 2, api.Reg{}, 0, 9}, api.ErrNumber},
			{deal{2, 5, register(1, 4, 0), 0, 9}, api.ErrNumber},
			{deal{2, 5, api.Reg{}, most + 1, 0}, api.ErrRange},
			{deal{2, 5, api.Reg{}, 0, -most - 1}, api.ErrRange},
			{deal{2, 5, register(1, 2, 1), -most, 0}, api.ErrRange},
			{deal{5, 2, register(1, 2, 1), most, 0}, api.ErrRange},
		} {
			if got := c.d.play(n); !got.same(row{err: c.want}) {
				t.Errorf("Play of %+v, %d times: %v", c.d, n, got)
			}
		}
		want := row{r: register(newest, 5, 0)}
		if n > 0 {
			want = row{err: api.ErrRange}
		}
		if got := (deal{2, 5, register(newest, 5, 0), 0, 9}).play(n); !got.same(want) {
			t.Errorf("no version left, %d times: %v, want %v", n, got, want)
		}
	}
}

// Play is Balance at b, then at a, and so on, each with the register as it is then.
func TestP12_3ARowOfBalances(t *testing.T) {
	for d := range fitting(123, 3000) {
		want := row{r: d.r}
		for n := range 8 {
			if got := d.play(n); !got.same(want) {
				t.Fatalf("Play of %+v, %d times: %v, want %v", d, n, got, want)
			}
			at := d.with(want.r)
			if n%2 == 0 {
				at = at.turned()
			}
			m := at.balance()
			if m.err != api.OK {
				want = row{err: m.err}
				if got := d.play(n + 1); !got.same(want) {
					t.Fatalf("Play of %+v, %d times: %v, want %v", d, n+1, got, want)
				}
				break
			}
			want.r, want.amounts = m.r, append(want.amounts, m.amount)
		}
	}
}

// No later Balance moves anything or has an error, so that who is asked then is told by the turns alone.
func TestP12_3WhoIsAsked(t *testing.T) {
	a, b := end{2, 0}, end{5, 9}
	for _, n := range counts() {
		i := 0
		for asked, asker := range turns(a, b, n) {
			if i%2 == 0 && (asked != b || asker != a) || i%2 == 1 && (asked != a || asker != b) {
				t.Fatalf("turn %d: %v asks %v", i, asker, asked)
			}
			i++
		}
		if want := min(max(n, 0), 100); i != want {
			t.Errorf("%d turns, want %d", i, want)
		}
	}
	left := 0
	for range turns(a, b, 50) {
		left++
		if left == 7 {
			break
		}
	}
	if left != 7 {
		t.Errorf("left behind %d turns", left)
	}
}

func TestP12_3AndP12_7AllCounts(t *testing.T) {
	d := newDice(37)
	for n := -2; n <= 103; n++ {
		for range 100 {
			x := d.deal()
			if got, want := x.play(n), x.sayPlay(n); !got.same(want) {
				t.Fatalf("Play of %+v, %d times: %v, want %v", x, n, got, want)
			}
		}
	}
}

// A list that comes out is memory of its own: written over, its spare room too, it changes neither another one nor what
// a later call tells.
func TestAmountsAreNewMemory(t *testing.T) {
	for _, n := range []int{1, 2, 3, 99, 100} {
		d := deal{2, 5, register(3, 2, 1), 0, 9}
		one, two := d.play(n), d.play(n)
		want := row{one.r, slices.Clone(one.amounts), api.OK}
		whole := one.amounts[:cap(one.amounts)]
		for i := range whole {
			whole[i] = -77
		}
		if !two.same(want) || !d.play(n).same(want) {
			t.Errorf("%d times: %v, then %v, want %v", n, two, d.play(n), want)
		}
	}
}
