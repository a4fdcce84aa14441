package chans

import (
	"math"
	"slices"
	"testing"

	"eddy/api"
)

var odd = api.State{Chan: api.Chan{Name: "!", Epoch: -7, Maker: -7, Alive: true, Kind: -7, Scale: -7}, Has: true, Input: math.MinInt64, Min: api.Ext{Age: -7}, Max: api.Ext{Origin: -7}}

// roomy is the same list with room behind it, in which something lies.
func roomy(l []api.State) []api.State {
	all := append(slices.Clone(l), with(alive("n", 9, 9, api.KMean, 9), 9), odd, bare(gone("zz", 9, 9, api.KExt, 1)))
	return all[:len(l)]
}

// whole is all that lies in a list, and in its spare room.
func whole[T any](l []T) []T { return slices.Clone(l[:cap(l)]) }

// spoil writes over all that lies in a list, and in its spare room.
func spoil[T any](l []T, with T) {
	for i := range l[:cap(l)] {
		l[:cap(l)][i] = with
	}
}

// calls are all calls that states go into and come out of.
func calls() map[string]func(l []api.State) []api.State {
	type states = []api.State
	learnt := func(l states, _ bool) states { return l }
	made := func(l states, _ api.Errno) states { return l }
	return map[string]func(l states) states{
		"Learn, added first":       func(l states) states { return learnt(Learn(l, alive("a", 1, 1, api.KMean, 1))) },
		"Learn, added between":     func(l states) states { return learnt(Learn(l, alive("m", 1, 1, api.KMean, 1))) },
		"Learn, added last":        func(l states) states { return learnt(Learn(l, alive("zz", 1, 1, api.KMean, 1))) },
		"Learn, a piece":           func(l states) states { return learnt(Learn(l[1:3], alive("zz", 1, 1, api.KMean, 1))) },
		"Learn, newer":             func(l states) states { return learnt(Learn(l, gone("e", 8, 1, api.KExt, 1))) },
		"Learn, older":             func(l states) states { return learnt(Learn(l, gone("e", 6, 1, api.KExt, 1))) },
		"Learn, the same":          func(l states) states { return learnt(Learn(l, l[0].Chan)) },
		"Learn, among none":        func(l states) states { return learnt(Learn(l[:0], l[0].Chan)) },
		"Create first":             func(l states) states { return made(Create(l, 1, "a", api.KMean, 1)) },
		"Create between":           func(l states) states { return made(Create(l, 1, "m", api.KMean, 1)) },
		"Create last":              func(l states) states { return made(Create(l, 1, "zz", api.KMean, 1)) },
		"Create anew":              func(l states) states { return made(Create(l, 1, "d", api.KMean, 1)) },
		"Create among none":        func(l states) states { return made(Create(l[:0], 1, "m", api.KMean, 1)) },
		"Create, ErrName":          func(l states) states { return made(Create(l, 1, "", api.KMean, 1)) },
		"Create, ErrName, of none": func(l states) states { return made(Create(l[:0], 1, "", api.KMean, 1)) },
		"Create, ErrHave":          func(l states) states { return made(Create(l, 1, "b", api.KMean, 1)) },
		"Create, ErrLast":          func(l states) states { return made(Create(l, 1, "g", api.KMean, 1)) },
		"Delete first":             func(l states) states { return made(Delete(l, 1, "b")) },
		"Delete between":           func(l states) states { return made(Delete(l, 1, "e")) },
		"Delete last":              func(l states) states { return made(Delete(l[:5], 1, "f")) },
		"Delete, ErrNone":          func(l states) states { return made(Delete(l, 1, "d")) },
		"Delete, ErrNone, of none": func(l states) states { return made(Delete(l[:0], 1, "d")) },
		"Delete, ErrLast":          func(l states) states { return made(Delete(l, 1, "q")) },
		"Set, KMean":               func(l states) states { return made(Set(l, 1, "b", 3)) },
		"Set, KCount":              func(l states) states { return made(Set(l, 1, "c", 0)) },
		"Set, KSquare":             func(l states) states { return made(Set(l, 1, "q", 5)) },
		"Set, KExt":                func(l states) states { return made(Set(l, 1, "e", 5)) },
		"Set, ErrNone":             func(l states) states { return made(Set(l, 1, "d", 5)) },
		"Set, ErrNone, of none":    func(l states) states { return made(Set(l[:0], 1, "b", 5)) },
		"Set, ErrUnit":             func(l states) states { return made(Set(l, 1, "c", 2)) },
		"Set, ErrRange":            func(l states) states { return made(Set(l, 1, "b", most)) },
		"Tick":                     func(l states) states { return Tick(l, 1) },
		"Tick, nothing to do":      func(l states) states { return Tick(l[:2], 1) },
		"Tick of none":             func(l states) states { return Tick(l[:0], 1) },
		"Hear":                     func(l states) states { return Hear(l, 2, "e", of(-most, 1, 0), of(most, 1, 0)) },
		"Hear, another kind":       func(l states) states { return Hear(l, 2, "b", of(-most, 1, 0), of(most, 1, 0)) },
		"Hear, not alive":          func(l states) states { return Hear(l, 2, "d", of(-most, 1, 0), of(most, 1, 0)) },
		"Hear of none":             func(l states) states { return Hear(l[:0], 2, "e", of(-most, 1, 0), of(most, 1, 0)) },
		"Copy":                     func(l states) states { return Copy(l) },
		"Copy of a piece":          func(l states) states { return Copy(l[2:4]) },
		"Copy of none":             func(l states) states { return Copy(l[:0]) },
		"Fit, Find, Own, Flows, Same": func(l states) states {
			Fit(3, l)
			Find(l, "d")
			Find(l, "n") // it lies in the room behind the list
			Own(l, l[0].Chan)
			Flows(l[0].Chan.Kind)
			Same(l, l[1:])
			return nil
		},
	}
}

// each hands out all calls with a list that has room for one more name, and with a full one.
func each(do func(name string, call func(l []api.State) []api.State, l []api.State)) {
	for name, call := range calls() {
		for _, l := range [][]api.State{mixed(), full()} {
			do(name, call, l)
		}
	}
}

func TestWhatIsHandedInStays(t *testing.T) {
	each(func(name string, call func(l []api.State) []api.State, l []api.State) {
		l = roomy(l)
		was := whole(l)
		out := call(l)
		if !slices.Equal(whole(l), was) {
			t.Errorf("%s: what was handed in is %+v, was %+v", name, whole(l), was)
		}
		keep := slices.Clone(out)
		spoil(l, odd)
		if !slices.Equal(out, keep) {
			t.Errorf("%s: the answer hangs on what was handed in: %+v, was %+v", name, out, keep)
		}
	})
}

func TestWhatComesOutIsNewMemory(t *testing.T) {
	each(func(name string, call func(l []api.State) []api.State, l []api.State) {
		l = roomy(l)
		was := whole(l)
		out, again := call(l), call(l)
		keep := slices.Clone(again)
		spoil(out, odd)
		if !slices.Equal(whole(l), was) {
			t.Errorf("%s: writing over the answer changes what was handed in: %+v", name, whole(l))
		}
		if !slices.Equal(again, keep) || !slices.Equal(call(l), keep) {
			t.Errorf("%s: writing over one answer changes another one", name)
		}
	})
	l := roomy(mixed())
	out, again := Records(l), Records(l)
	spoil(out, odd.Chan)
	if !slices.Equal(l, mixed()) || !slices.Equal(again, Records(mixed())) {
		t.Error("writing over records changes others, or what was handed in")
	}
}

// What lies in spare room plays no part: the answers are those to lists without any.
func TestSpareRoomPlaysNoPart(t *testing.T) {
	each(func(name string, call func(l []api.State) []api.State, l []api.State) {
		if got, want := call(roomy(l)), call(slices.Clip(l)); !slices.Equal(got, want) {
			t.Errorf("%s: %+v, want %+v", name, got, want)
		}
	})
	l := roomy(mixed())
	if s, ok := Find(l, "n"); ok || s != (api.State{}) {
		t.Errorf("Find in the room behind a list: %+v", s)
	}
	if Own(l, alive("n", 9, 9, api.KMean, 9)) || !Fit(3, l) || !Same(l, mixed()) || len(Records(l)) != len(mixed()) {
		t.Error("what lies in the room behind a list plays a part")
	}
}

// Every call ends and none panics, at all arguments; what is not fit is left as it was, too.
func TestNothingPanics(t *testing.T) {
	d := newDice(1)
	some := func() []api.State {
		var l []api.State
		for range d.Intn(24) {
			l = append(l, d.unfit())
		}
		if d.Intn(2) == 0 {
			l = slices.Concat(d.states(), l)
		}
		return l
	}
	for range 10000 {
		l, s := some(), d.unfit()
		c, name := s.Chan, s.Chan.Name
		if len(l) > 0 && d.Intn(2) == 0 {
			name = pick(d, l).Chan.Name
		}
		was := slices.Clone(l)
		Fit(c.Maker, l)
		Find(l, name)
		Records(l)
		Learn(l, c)
		Create(l, c.Maker, name, c.Kind, c.Scale)
		Create(l, c.Maker, pick(d, twelve()), api.KMean, 1)
		Delete(l, c.Maker, name)
		Set(l, c.Maker, name, s.Input)
		Tick(l, c.Maker)
		Hear(l, c.Maker, name, s.Min, s.Max)
		Own(l, c)
		Flows(c.Kind)
		Copy(l)
		Same(l, was)
		if !slices.Equal(l, was) {
			t.Fatalf("unfit ones are changed: %+v, were %+v", l, was)
		}
	}
}
