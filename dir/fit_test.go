package dir

import (
	"math"
	"slices"
	"strings"
	"testing"

	"eddy/api"
)

func TestP17_1NameByItsLength(t *testing.T) {
	for n := range 40 {
		for _, b := range []string{"a", "z", "0", "9", "_"} {
			if got, want := Name(strings.Repeat(b, n)), n >= 1 && n <= 16; got != want {
				t.Errorf("Name of %d times %s: %t", n, b, got)
			}
		}
	}
	for _, s := range []string{strings.Repeat("q", 300), strings.Repeat("q", 1<<16), strings.Repeat("q", 1<<16+3), strings.Repeat("q", 1<<8+3)} {
		if Name(s) {
			t.Errorf("Name of %d bytes", len(s))
		}
	}
}

// Each byte by itself, first, in the middle and last of names of all lengths.
func TestP17_1NameByItsBytes(t *testing.T) {
	yes := 0
	for b := range 256 {
		want := b >= 'a' && b <= 'z' || b >= '0' && b <= '9' || b == '_'
		if want {
			yes++
		}
		for n := 1; n <= 16; n++ {
			for at := range n {
				s := []byte(strings.Repeat("q", n))
				s[at] = byte(b)
				if Name(string(s)) != want {
					t.Errorf("Name(%q): %t", s, !want)
				}
			}
		}
	}
	if yes != 26+10+1 {
		t.Errorf("%d bytes may stand in a name", yes)
	}
	for _, s := range texts() {
		if Name(s) != sayName(s) {
			t.Errorf("Name(%q): %t", s, Name(s))
		}
	}
}

type fitCase struct {
	name string
	c    api.Chan
	want bool
}

// fitsAre holds Fit to what it must answer, and Fits of that record alone.
func fitsAre(t *testing.T, cases []fitCase) {
	t.Helper()
	for _, c := range cases {
		if sayFit(c.c) != c.want {
			t.Fatalf("%s: the case itself is wrong: %+v", c.name, c.c)
		}
		if Fit(c.c) != c.want {
			t.Errorf("%s: Fit(%+v): %t", c.name, c.c, !c.want)
		}
		if Fits([]api.Chan{c.c}) != c.want {
			t.Errorf("%s: Fits of %+v alone: %t", c.name, c.c, !c.want)
		}
	}
}

func TestP17_1FitOfEachPart(t *testing.T) {
	var cases []fitCase
	add := func(name string, want bool, change func(c *api.Chan)) {
		for _, base := range []api.Chan{alive("m", 1, 3, api.KMean, 4), gone("m", 2, 5, api.KCount, 1), alive("m", lastEpoch, 0, api.KSquare, mostScale), gone("m", 7, 15, api.KExt, 1)} {
			cases = append(cases, fitCase{name, as(base, change), want})
		}
	}
	add("as it is", true, func(c *api.Chan) {})
	for _, e := range epochs() {
		add("Epoch", e >= 1 && e <= 1<<40, func(c *api.Chan) { c.Epoch = e })
	}
	for _, m := range makers() {
		add("Maker", m >= 0 && m <= 15, func(c *api.Chan) { c.Maker = m })
	}
	for _, s := range texts() {
		add("Name", sayName(s), func(c *api.Chan) { c.Name = s })
	}
	for _, k := range kinds() {
		add("Kind", k >= 1 && k <= 4, func(c *api.Chan) { c.Kind, c.Scale = k, 1 })
		add("Kind, with 2", k >= 1 && k <= 3, func(c *api.Chan) { c.Kind, c.Scale = k, 2 })
		add("Kind, with the greatest scale", k >= 1 && k <= 3, func(c *api.Chan) { c.Kind, c.Scale = k, mostScale })
		add("Kind, with one more", false, func(c *api.Chan) { c.Kind, c.Scale = k, mostScale+1 })
		for _, s := range scales() {
			fits := k >= 1 && k <= 3 && s >= 1 && s <= 1<<20 || k == 4 && s == 1
			add("Kind and Scale", fits, func(c *api.Chan) { c.Kind, c.Scale = k, s })
		}
	}
	cases = append(cases, fitCase{"the zero record", api.Chan{}, false})
	fitsAre(t, cases)
}

func TestP17_1FitByTheWords(t *testing.T) {
	d, fit := newDice(171), 0
	for range 30000 {
		c := d.record(texts()[d.Intn(len(texts()))])
		switch d.Intn(8) {
		case 0:
			c.Epoch = epochs()[d.Intn(len(epochs()))]
		case 1:
			c.Maker = makers()[d.Intn(len(makers()))]
		case 2:
			c.Kind = kinds()[d.Intn(len(kinds()))]
		case 3:
			c.Scale = scales()[d.Intn(len(scales()))]
		}
		want := sayFit(c)
		if want {
			fit++
		}
		if Fit(c) != want || Fits([]api.Chan{c}) != want {
			t.Fatalf("Fit(%+v): %t, want %t", c, Fit(c), want)
		}
	}
	if fit < 3000 || fit > 27000 {
		t.Errorf("%d of 30000 are fit", fit)
	}
}

func TestP17_1FitsOfLists(t *testing.T) {
	odd := as(named("b")[0], func(c *api.Chan) { c.Epoch = 0 })
	for _, c := range []struct {
		name string
		l    []api.Chan
		want bool
	}{
		{"nil", nil, true},
		{"none", []api.Chan{}, true},
		{"one", named("m"), true},
		{"two", named("a", "m"), true},
		{"as many as may be", named(eight()...), true},
		{"one more", named(append(eight(), "zz")...), false},
		{"twice as many", named("a", "b", "c", "d", "e", "f", "g", "h", "i", "j", "k", "l", "m", "n", "o", "p"), false},
		{"a name twice", named("m", "m"), false},
		{"a name twice, unlike records", []api.Chan{alive("m", 1, 1, 1, 1), gone("m", 2, 2, 2, 2)}, false},
		{"a name twice at last", named("a", "m", "m"), false},
		{"a name twice at first", named("a", "a", "m"), false},
		{"a name twice, another one between", named("a", "m", "a"), false},
		{"names that fall", named("m", "a"), false},
		{"names that fall at last", named("a", "z", "m"), false},
		{"names that fall at first", named("m", "a", "z"), false},
		{"names by bytes", named("0", "9", "_", "a", "a0", "a_", "aa", "b"), true},
		{"the longer one ahead", named("aa", "a"), false},
		{"by length", named("b", "aa"), false},
		{"a letter ahead of a digit", named("a", "0"), false},
		{"a letter ahead of _", named("a", "_"), false},
		{"_ ahead of a digit", named("_", "0"), false},
		{"no name first", named("", "a"), false},
		{"no name alone", named(""), false},
		{"an unfit one alone", []api.Chan{odd}, false},
		{"an unfit one first", append([]api.Chan{odd}, named("m")...), false},
		{"an unfit one between", []api.Chan{named("a")[0], odd, named("m")[0]}, false},
		{"an unfit one last", append(named("a"), odd), false},
		{"epochs and makers that fall", []api.Chan{alive("a", 9, 9, 1, 1), gone("b", 3, 3, 4, 1), alive("c", 1, 0, 2, 7)}, true},
	} {
		if sayFits(c.l) != c.want {
			t.Fatalf("%s: the case itself is wrong", c.name)
		}
		if Fits(c.l) != c.want {
			t.Errorf("%s: Fits(%+v): %t", c.name, c.l, !c.want)
		}
	}
}

// Of a full list each place is spoilt in turn.
func TestP17_1FitsOfFullLists(t *testing.T) {
	for i := range api.MaxChans {
		for _, change := range []func(c *api.Chan){
			func(c *api.Chan) { c.Epoch = 0 },
			func(c *api.Chan) { c.Epoch = lastEpoch + 1 },
			func(c *api.Chan) { c.Maker = -1 },
			func(c *api.Chan) { c.Maker = 16 },
			func(c *api.Chan) { c.Kind = 0 },
			func(c *api.Chan) { c.Kind = 5 },
			func(c *api.Chan) { c.Scale = 0 },
			func(c *api.Chan) { c.Kind, c.Scale = api.KExt, 2 },
			func(c *api.Chan) { c.Name = "" },
			func(c *api.Chan) { c.Name += "!" },
		} {
			l := named(eight()...)
			if change(&l[i]); Fits(l) {
				t.Errorf("Fits(%+v)", l)
			}
		}
		l := named(eight()...)
		if l[i].Alive = false; !Fits(l) {
			t.Errorf("%d is not alive: not fit", i)
		}
		for j := range i {
			l := named(eight()...)
			if l[i], l[j] = l[j], l[i]; Fits(l) {
				t.Errorf("%d and %d are exchanged: fit", i, j)
			}
			l = named(eight()...)
			if l[i] = l[j]; Fits(l) {
				t.Errorf("%d stands at %d as well: fit", j, i)
			}
		}
	}
}

func TestP17_1FitsByTheWords(t *testing.T) {
	d, fit := newDice(1712), 0
	for range 20000 {
		l := d.any()
		if !Fits(l) {
			t.Fatalf("Fits(%+v): false", l)
		}
		for range d.Intn(3) {
			if len(l) == 0 {
				break
			}
			c := &l[d.Intn(len(l))]
			switch d.Intn(6) {
			case 0:
				c.Epoch = epochs()[d.Intn(len(epochs()))]
			case 1:
				c.Maker = makers()[d.Intn(len(makers()))]
			case 2:
				c.Kind = kinds()[d.Intn(len(kinds()))]
			case 3:
				c.Scale = scales()[d.Intn(len(scales()))]
			case 4:
				c.Name = texts()[d.Intn(len(texts()))]
			case 5:
				l = append(l, d.record("zzzzzzzzzzzzzzzz"))
			}
		}
		want := sayFits(l)
		if Fits(l) != want {
			t.Fatalf("Fits(%+v): %t", l, !want)
		}
		if want {
			fit++
		}
	}
	if fit < 2000 || fit > 18000 {
		t.Errorf("%d of 20000 are fit", fit)
	}
}

func TestP17_2Newer(t *testing.T) {
	at := func(epoch int64, maker int) api.Chan { return alive("m", epoch, maker, api.KMean, 4) }
	for _, c := range []struct {
		name string
		a, b api.Chan
		want bool
	}{
		{"example 2", at(2, 5), at(2, 1), false},
		{"example 2, the other way round", at(2, 1), at(2, 5), true},
		{"example 2, unlike Epochs", at(3, 9), at(2, 1), true},
		{"example 2, unlike Epochs, the other way round", at(2, 1), at(3, 9), false},
		{"the greater Epoch with the smaller Maker", at(3, 1), at(2, 9), true},
		{"the greater Epoch with the same Maker", at(3, 1), at(2, 1), true},
		{"the same", at(2, 1), at(2, 1), false},
		{"the zero records", api.Chan{}, api.Chan{}, false},
		{"of one stamp, one is not alive", at(2, 1), gone("m", 2, 1, api.KMean, 4), false},
		{"of one stamp, the other one is not alive", gone("m", 2, 1, api.KMean, 4), at(2, 1), false},
		{"of one stamp, all else is greater", alive("z", 2, 1, api.KExt, 9), gone("a", 2, 1, api.KMean, 1), false},
		{"of one stamp, all else is less", gone("a", 2, 1, api.KMean, 1), alive("z", 2, 1, api.KExt, 9), false},
		{"one Epoch, all else is greater", alive("z", 2, 2, api.KExt, 9), gone("a", 2, 1, api.KMean, 1), false},
		{"one Epoch, all else is less", gone("a", 2, 0, api.KMean, 1), alive("z", 2, 1, api.KExt, 9), true},
		{"the ends of the numbers", at(math.MaxInt64, 0), at(math.MinInt64, 0), true},
		{"the ends of the numbers, the other way round", at(math.MinInt64, 0), at(math.MaxInt64, 0), false},
		{"the ends of the makers", at(0, math.MinInt), at(0, math.MaxInt), true},
		{"the ends of the makers, the other way round", at(0, math.MaxInt), at(0, math.MinInt), false},
	} {
		if got := Newer(c.a, c.b); got != c.want {
			t.Errorf("%s: Newer(%+v, %+v): %t", c.name, c.a, c.b, got)
		}
	}
}

// Of any two, whatever else they say; and by it any row is sorted in one way.
func TestP17_2NewerOfAny(t *testing.T) {
	d := newDice(172)
	var all []api.Chan
	for _, e := range epochs() {
		for _, m := range slices.Backward(makers()) {
			all = append(all, api.Chan{Epoch: e, Maker: m})
		}
	}
	other := func(c api.Chan) api.Chan {
		c.Name, c.Alive = texts()[d.Intn(len(texts()))], d.Intn(2) == 0
		c.Kind, c.Scale = kinds()[d.Intn(len(kinds()))], scales()[d.Intn(len(scales()))]
		return c
	}
	for i, a := range all {
		for j, b := range all {
			if got := Newer(other(a), other(b)); got != (i > j) || got != sayNewer(a, b) {
				t.Fatalf("Newer(%+v, %+v): %t", a, b, got)
			}
		}
	}
}
