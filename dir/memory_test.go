package dir

import (
	"slices"
	"testing"

	"eddy/api"
)

var odd = api.Chan{Name: "!", Epoch: -7, Maker: -7, Alive: true, Kind: -7, Scale: -7}

// roomy is the same list with room behind it, in which something lies.
func roomy(l []api.Chan) []api.Chan {
	all := append(slices.Clone(l), alive("n", 9, 9, api.KMean, 9), odd, gone("zz", 9, 9, api.KExt, 1))
	return all[:len(l)]
}

// whole is all that lies in a list, and in its spare room.
func whole(l []api.Chan) []api.Chan { return slices.Clone(l[:cap(l)]) }

// spoil writes over all that lies in a list, and in its spare room.
func spoil(l []api.Chan) {
	for i := range l[:cap(l)] {
		l[:cap(l)][i] = odd
	}
}

// given are lists with records of all sorts: one with room for more names, and a full one.
func given() [][]api.Chan {
	l := []api.Chan{alive("b", 3, 1, api.KMean, 4), gone("d", 2, 5, api.KCount, 9), alive("f", 1, 0, api.KExt, 1), gone("y", lastEpoch, 0, api.KExt, 1), alive("z", lastEpoch, 0, api.KExt, 1)}
	return [][]api.Chan{l, slices.Insert(slices.Clone(l), 3, named("g", "h", "i")...)}
}

// told is a list of which some are new, some newer and some older than those.
func told() []api.Chan {
	return []api.Chan{alive("a", 1, 1, api.KMean, 1), gone("b", 4, 1, api.KMean, 4), alive("d", 1, 1, api.KMean, 1), alive("e", 1, 1, api.KMean, 1), gone("zz", 1, 1, api.KMean, 1)}
}

// calls are all calls that lists go into and come out of.
func calls() map[string]func(l, more []api.Chan) []api.Chan {
	type lists = []api.Chan
	learnt := func(l lists, _ int) lists { return l }
	made := func(l lists, _ api.Errno) lists { return l }
	return map[string]func(l, more []api.Chan) []api.Chan{
		"Learn, added first":         func(l, more lists) lists { return learnt(Learn(l, more[0])) },
		"Learn, added between":       func(l, more lists) lists { return learnt(Learn(l, more[3])) },
		"Learn, added last":          func(l, more lists) lists { return learnt(Learn(l, more[4])) },
		"Learn, newer":               func(l, more lists) lists { return learnt(Learn(l, more[1])) },
		"Learn, older":               func(l, more lists) lists { return learnt(Learn(l, more[2])) },
		"Learn, the same":            func(l, more lists) lists { return learnt(Learn(l, l[0])) },
		"Learn, among none":          func(l, more lists) lists { return learnt(Learn(l[:0], more[0])) },
		"Learn, the beginning alone": func(l, more lists) lists { return learnt(Learn(l[:2], more[4])) },
		"Merge":                      func(l, more lists) lists { return Merge(l, more) },
		"Merge, the other way round": func(l, more lists) lists { return Merge(more, l) },
		"Merge with itself":          func(l, more lists) lists { return Merge(l, l) },
		"Merge with a piece":         func(l, more lists) lists { return Merge(l[1:], l[:3]) },
		"Merge with none":            func(l, more lists) lists { return Merge(l, more[:0]) },
		"Merge of none":              func(l, more lists) lists { return Merge(l[:0], more) },
		"Merge of none with none":    func(l, more lists) lists { return Merge(l[:0], more[:0]) },
		"Create first":               func(l, more lists) lists { return made(Create(l, 1, "a", api.KMean, 1)) },
		"Create between":             func(l, more lists) lists { return made(Create(l, 1, "c", api.KMean, 1)) },
		"Create last":                func(l, more lists) lists { return made(Create(l, 1, "zz", api.KMean, 1)) },
		"Create anew":                func(l, more lists) lists { return made(Create(l, 1, "d", api.KMean, 1)) },
		"Create among none":          func(l, more lists) lists { return made(Create(l[:0], 1, "m", api.KMean, 1)) },
		"Create, ErrName":            func(l, more lists) lists { return made(Create(l, 1, "", api.KMean, 1)) },
		"Create, ErrName, of none":   func(l, more lists) lists { return made(Create(l[:0], 1, "", api.KMean, 1)) },
		"Create, ErrKind":            func(l, more lists) lists { return made(Create(l, 1, "m", 0, 1)) },
		"Create, ErrScale":           func(l, more lists) lists { return made(Create(l, 1, "m", api.KExt, 2)) },
		"Create, ErrHave":            func(l, more lists) lists { return made(Create(l, 1, "b", api.KExt, 1)) },
		"Create, ErrLast":            func(l, more lists) lists { return made(Create(l, 1, "y", api.KExt, 1)) },
		"Delete first":               func(l, more lists) lists { return made(Delete(l, 1, "b")) },
		"Delete between":             func(l, more lists) lists { return made(Delete(l, 1, "f")) },
		"Delete last":                func(l, more lists) lists { return made(Delete(l[:3], 1, "f")) },
		"Delete, ErrNone":            func(l, more lists) lists { return made(Delete(l, 1, "m")) },
		"Delete, ErrNone, not alive": func(l, more lists) lists { return made(Delete(l, 1, "d")) },
		"Delete, ErrNone, of none":   func(l, more lists) lists { return made(Delete(l[:0], 1, "d")) },
		"Delete, ErrLast":            func(l, more lists) lists { return made(Delete(l, 1, "z")) },
		"Alive":                      func(l, more lists) lists { return Alive(l) },
		"Alive, all of them":         func(l, more lists) lists { return Alive(l[:1]) },
		"Alive, none of them":        func(l, more lists) lists { return Alive(l[1:2]) },
		"Alive of none":              func(l, more lists) lists { return Alive(l[:0]) },
		"Find, Fits, Fit, Name, Newer": func(l, more lists) lists {
			Find(l, "d")
			Find(l, "n") // it lies in the room behind the list
			Fits(l)
			Fit(l[0])
			Name(l[0].Name)
			Newer(l[0], more[0])
			return nil
		},
	}
}

// each hands out all calls with each of the lists.
func each(do func(name string, call func(l, more []api.Chan) []api.Chan, l []api.Chan)) {
	for name, call := range calls() {
		for _, l := range given() {
			do(name, call, l)
		}
	}
}

func TestWhatIsHandedInStays(t *testing.T) {
	each(func(name string, call func(l, more []api.Chan) []api.Chan, l []api.Chan) {
		l, more := roomy(l), roomy(told())
		was, wasMore := whole(l), whole(more)
		out := call(l, more)
		if !slices.Equal(whole(l), was) || !slices.Equal(whole(more), wasMore) {
			t.Errorf("%s: what was handed in is %+v, %+v, was %+v, %+v", name, whole(l), whole(more), was, wasMore)
		}
		keep := slices.Clone(out)
		spoil(l)
		spoil(more)
		if !slices.Equal(out, keep) {
			t.Errorf("%s: the answer hangs on what was handed in: %+v, was %+v", name, out, keep)
		}
	})
}

func TestWhatComesOutIsNewMemory(t *testing.T) {
	each(func(name string, call func(l, more []api.Chan) []api.Chan, l []api.Chan) {
		l, more := roomy(l), roomy(told())
		was, wasMore := whole(l), whole(more)
		out, again := call(l, more), call(l, more)
		keep := slices.Clone(again)
		spoil(out)
		if !slices.Equal(whole(l), was) || !slices.Equal(whole(more), wasMore) {
			t.Errorf("%s: writing over the answer changes what was handed in: %+v, %+v", name, whole(l), whole(more))
		}
		if !slices.Equal(again, keep) || !slices.Equal(call(l, more), keep) {
			t.Errorf("%s: writing over one answer changes another one", name)
		}
	})
}

// What lies in spare room plays no part: the answers are those to lists without any.
func TestSpareRoomPlaysNoPart(t *testing.T) {
	each(func(name string, call func(l, more []api.Chan) []api.Chan, l []api.Chan) {
		if got, want := call(roomy(l), roomy(told())), call(slices.Clip(l), slices.Clip(told())); !slices.Equal(got, want) {
			t.Errorf("%s: %+v, want %+v", name, got, want)
		}
	})
	if c, ok := Find(roomy(given()[0]), "n"); ok || c != (api.Chan{}) {
		t.Errorf("Find in the room behind a list: %+v", c)
	}
}

// Every call ends and none panics, at all arguments.
func TestNothingPanics(t *testing.T) {
	d := newDice(1)
	unfit := func() api.Chan {
		return api.Chan{Name: texts()[d.Intn(len(texts()))], Epoch: epochs()[d.Intn(len(epochs()))], Maker: makers()[d.Intn(len(makers()))], Alive: d.Intn(2) == 0, Kind: kinds()[d.Intn(len(kinds()))], Scale: scales()[d.Intn(len(scales()))]}
	}
	some := func() []api.Chan {
		var l []api.Chan
		for range d.Intn(24) {
			l = append(l, unfit())
		}
		return l
	}
	for range 5000 {
		l, more, c := some(), some(), unfit()
		was, wasMore := slices.Clone(l), slices.Clone(more)
		Name(c.Name)
		Fit(c)
		Fits(l)
		Newer(c, unfit())
		Find(l, c.Name)
		Learn(l, c)
		Merge(l, more)
		Create(l, c.Maker, c.Name, c.Kind, c.Scale)
		Create(l, c.Maker, "m", api.KMean, 1)
		Delete(l, c.Maker, c.Name)
		Alive(l)
		if !slices.Equal(l, was) || !slices.Equal(more, wasMore) {
			t.Fatalf("unfit ones are changed: %+v, %+v, were %+v, %+v", l, more, was, wasMore)
		}
	}
}
