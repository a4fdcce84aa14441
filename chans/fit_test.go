package chans

import (
	"math"
	"slices"
	"testing"

	"eddy/api"
)

type fitCase struct {
	name string
	l    []api.State
	want bool
}

func holdsFit(t *testing.T, cases []fitCase) {
	t.Helper()
	for _, c := range cases {
		if got := sayFit(3, c.l); got != c.want {
			t.Fatalf("%s: the case itself is wrong: %t", c.name, got)
		}
		if got := Fit(3, c.l); got != c.want {
			t.Errorf("%s: Fit(3, %+v): %t", c.name, c.l, got)
		}
	}
}

func TestP18_1FitOfNodes(t *testing.T) {
	for _, id := range ids() {
		want := id >= 0 && id <= 15
		for _, l := range [][]api.State{nil, {}, mixed(), full()} {
			if got := Fit(id, l); got != want {
				t.Errorf("Fit(%d, %+v): %t", id, l, got)
			}
		}
	}
	for id := -1; id <= 16; id++ { // whose values a node knows does not hang on its number
		for origin := range 16 {
			l := []api.State{rich("e", 1, origin, 5, of(5, origin, 0), of(5, origin, 63))}
			if got := Fit(id, l); got != (id >= 0 && id <= 15) {
				t.Errorf("Fit(%d, %+v): %t", id, l, got)
			}
		}
	}
}

func TestP18_1FitOfLists(t *testing.T) {
	eightOnes := named(eight()...)
	holdsFit(t, []fitCase{
		{"no state", nil, true},
		{"an empty list", []api.State{}, true},
		{"one", eightOnes[:1], true},
		{"MaxChans", eightOnes, true},
		{"one more", append(slices.Clone(eightOnes), named("zz")...), false},
		{"many", named("a", "b", "c", "d", "e", "f", "g", "h", "i", "j", "k", "l", "m", "n", "o", "p", "q", "r"), false},
		{"of all sorts", mixed(), true},
		{"one name twice", named("a", "a"), false},
		{"one name twice, one not alive", []api.State{bare(alive("a", 1, 1, api.KMean, 1)), bare(gone("a", 2, 1, api.KMean, 1))}, false},
		{"names that fall", named("b", "a"), false},
		{"names that fall at the end", named("a", "c", "b"), false},
		{"the longer name first", named("ab", "a"), false},
	})
}

// A record that is not fit, at each place of a list, alive and not.
func TestP18_1FitOfRecords(t *testing.T) {
	for _, c := range []struct {
		name   string
		change func(c *api.Chan)
		want   bool
	}{
		{"as it is", func(c *api.Chan) {}, true},
		{"no Epoch", func(c *api.Chan) { c.Epoch = 0 }, false},
		{"the first Epoch", func(c *api.Chan) { c.Epoch = 1 }, true},
		{"the last Epoch", func(c *api.Chan) { c.Epoch = lastEpoch }, true},
		{"an Epoch beyond", func(c *api.Chan) { c.Epoch = lastEpoch + 1 }, false},
		{"a Maker below", func(c *api.Chan) { c.Maker = -1 }, false},
		{"the least Maker", func(c *api.Chan) { c.Maker = 0 }, true},
		{"the greatest Maker", func(c *api.Chan) { c.Maker = 15 }, true},
		{"a Maker beyond", func(c *api.Chan) { c.Maker = 16 }, false},
		{"a kind below", func(c *api.Chan) { c.Kind = 0 }, false},
		{"a kind beyond", func(c *api.Chan) { c.Kind = 5 }, false},
		{"no scale", func(c *api.Chan) { c.Scale = 0 }, false},
		{"the greatest scale", func(c *api.Chan) { c.Scale = mostScale }, true},
		{"a scale beyond", func(c *api.Chan) { c.Scale = mostScale + 1 }, false},
		{"KExt with its scale", func(c *api.Chan) { c.Kind, c.Scale = api.KExt, 1 }, true},
		{"KExt with another scale", func(c *api.Chan) { c.Kind, c.Scale = api.KExt, 2 }, false},
		{"a name with another letter", func(c *api.Chan) { c.Name += "!" }, false},
		{"a name that is too long", func(c *api.Chan) { c.Name += "abcdefghijklmnop" }, false},
	} {
		for _, isAlive := range []bool{true, false} {
			for i := range 3 {
				l := []api.State{bare(alive("a", 2, 2, api.KMean, 4)), bare(alive("b", 2, 2, api.KSquare, 4)), bare(alive("c", 2, 2, api.KCount, 4))}
				l[i].Chan.Alive = isAlive
				c.change(&l[i].Chan)
				holdsFit(t, []fitCase{{c.name, l, c.want}})
			}
		}
	}
	holdsFit(t, []fitCase{{"a name of no letter", []api.State{bare(alive("", 1, 1, api.KMean, 1))}, false}, {"the zero state", []api.State{{}}, false}})
}

func TestP18_1FitOfWhatIsNotAlive(t *testing.T) {
	for _, kind := range []int{api.KMean, api.KCount, api.KSquare, api.KExt} {
		s := bare(gone("m", 2, 1, kind, 1))
		living := as(s, func(s *api.State) { s.Chan.Alive = true })
		changes := []struct {
			name   string
			change func(s *api.State)
			want   bool // if it is alive
		}{
			{"nothing", func(s *api.State) {}, true},
			{"Has", func(s *api.State) { s.Has = true }, true},
			{"an Input", func(s *api.State) { s.Input = 1 }, false},
			{"Has and an Input", func(s *api.State) { s.Has, s.Input = true, 1 }, true},
			{"a Min", func(s *api.State) { s.Min = of(0, 0, 0) }, kind == api.KExt},
			{"a Max", func(s *api.State) { s.Max = of(0, 0, 0) }, kind == api.KExt},
			{"a Min and a Max", func(s *api.State) { s.Min, s.Max = of(1, 1, 1), of(2, 2, 2) }, kind == api.KExt},
			{"all", func(s *api.State) { s.Has, s.Input, s.Min, s.Max = true, 1, of(1, 1, 1), of(2, 2, 2) }, kind == api.KExt},
		}
		for _, c := range changes {
			other := bare(alive("z", 1, 1, api.KMean, 1))
			holdsFit(t, []fitCase{
				{"not alive, with " + c.name, []api.State{as(s, c.change)}, c.name == "nothing"},
				{"alive, with " + c.name, []api.State{as(living, c.change)}, c.want},
				{"not alive, ahead of one, with " + c.name, []api.State{as(s, c.change), other}, c.name == "nothing"},
				{"alive, ahead of one, with " + c.name, []api.State{as(living, c.change), other}, c.want},
			})
		}
	}
}

func TestP18_1FitOfInputs(t *testing.T) {
	for _, kind := range []int{api.KMean, api.KCount, api.KSquare, api.KExt} {
		for _, input := range inputs() {
			s := bare(alive("m", 2, 1, kind, 1))
			s.Input = input
			inside := input >= -most && input <= most
			holdsFit(t, []fitCase{
				{"without Has", []api.State{s}, input == 0},
				{"with Has", []api.State{as(s, func(s *api.State) { s.Has = true })}, inside},
			})
		}
	}
}

func TestP18_1FitOfExtremeValues(t *testing.T) {
	var values []api.Ext
	for _, v := range []int64{math.MinInt64, -most - 1, -most, -1, 0, 1, most, most + 1, math.MaxInt64} {
		for _, o := range []int{math.MinInt, -1, 0, 15, 16, math.MaxInt} {
			for _, a := range ages() {
				values = append(values, api.Ext{Has: true, Value: v, Origin: o, Age: a})
			}
		}
	}
	values = append(values, none, api.Ext{Value: 1}, api.Ext{Origin: 1}, api.Ext{Age: 1}, api.Ext{Value: -most, Origin: 15, Age: 63})
	for _, kind := range []int{api.KMean, api.KCount, api.KSquare, api.KExt} {
		for _, has := range []bool{false, true} {
			s := bare(alive("m", 2, 1, kind, 1))
			s.Has = has
			for _, e := range values {
				want := e == none || kind == api.KExt && sayExt(e)
				holdsFit(t, []fitCase{
					{"as Min", []api.State{as(s, func(s *api.State) { s.Min = e })}, want},
					{"as Max", []api.State{as(s, func(s *api.State) { s.Max = e })}, want},
					{"as both", []api.State{as(s, func(s *api.State) { s.Min, s.Max = e, e })}, want},
				})
			}
		}
	}
	// Nothing is asked of how the two lie to each other and to the input.
	holdsFit(t, []fitCase{{"the least above the greatest", []api.State{rich("e", 1, 1, 0, of(9, 1, 0), of(-9, 2, 0))}, true}})
}

// Over states of which some parts are not fit, and some lists of them.
func TestP18_1FitOfDrawnOnes(t *testing.T) {
	d, fit := newDice(181), map[bool]int{}
	for range 60000 {
		l := d.states()
		for range d.Intn(3) {
			if len(l) == 0 {
				break
			}
			s, odd := &l[d.Intn(len(l))], d.unfit()
			switch d.Intn(8) {
			case 0:
				s.Has = odd.Has
			case 1:
				s.Input = odd.Input
			case 2:
				s.Min = odd.Min
			case 3:
				s.Max = odd.Max
			case 4:
				s.Chan = odd.Chan
			case 5:
				s.Chan.Alive = odd.Chan.Alive
			case 6:
				s.Chan.Kind = odd.Chan.Kind
			case 7:
				s.Chan.Name = odd.Chan.Name
			}
		}
		id := pick(d, []int{-1, 0, 1, 7, 14, 15, 16, 0, 1, 7, 14, 15})
		want := sayFit(id, l)
		if got := Fit(id, l); got != want {
			t.Fatalf("Fit(%d, %+v): %t", id, l, got)
		}
		fit[want]++
	}
	if fit[true] < 5000 || fit[false] < 5000 {
		t.Errorf("fit: %v", fit)
	}
}

func TestP18_1Flows(t *testing.T) {
	for _, kind := range kinds() {
		if got, want := Flows(kind), kind == 1 || kind == 2 || kind == 3; got != want {
			t.Errorf("Flows(%d): %t", kind, got)
		}
	}
	if !Flows(api.KMean) || !Flows(api.KCount) || !Flows(api.KSquare) || Flows(api.KExt) {
		t.Error("Flows of the kinds")
	}
}
