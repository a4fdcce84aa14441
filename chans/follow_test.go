package chans

import (
	"slices"
	"testing"

	"eddy/api"
)

// act is a call that changes states, with all that it was given and answered.
type act struct {
	call     string
	id       int
	name     string
	was, is  []api.State
	changed  bool // it says that it has
	x        int64
	isRecord bool // it is of those that change records
}

// draw does one call of those that states go into and come out of, with arguments of all sorts.
func (d dice) draw(l []api.State, id int) act {
	a := act{id: id, name: pick(d, twelve()), was: slices.Clone(l)}
	if d.Intn(12) == 0 {
		a.name = pick(d, texts())
	}
	err := api.OK
	switch d.Intn(8) {
	case 0:
		a.call, a.isRecord = "Learn", true
		c := d.record(pick(d, twelve()))
		c.Epoch, a.name = 1+c.Epoch%40, c.Name
		a.is, a.changed = Learn(l, c)
		return a
	case 1:
		a.call, a.isRecord = "Create", true
		a.is, err = Create(l, id, a.name, pick(d, []int{0, 1, 2, 3, 4, 4, 4, 5}), pick(d, []int64{0, 1, 1, 1, 2, mostScale, mostScale + 1}))
	case 2:
		a.call, a.isRecord = "Delete", true
		a.is, err = Delete(l, id, a.name)
	case 3, 4, 5:
		a.call, a.x = "Set", pick(d, append(inputs(), 0, 1, 0, 1, d.input(), d.input(), d.input()))
		a.is, err = Set(l, id, a.name, a.x)
	case 6:
		a.call = "Tick"
		a.is = Tick(l, id)
	case 7:
		a.call = "Hear"
		a.is = Hear(l, id, a.name, d.ext(), d.ext())
	}
	a.changed = err == api.OK
	return a
}

// rows are long rows of calls, from nothing on and from states that are drawn, each at one node.
func rows(seed int64, each func(a act)) {
	d := newDice(seed)
	for i := range 300 {
		var l []api.State
		if i%3 > 0 {
			l = d.states()
		}
		id := d.Intn(api.MaxNodes)
		for range 150 {
			a := d.draw(l, id)
			each(a)
			l = a.is
		}
	}
}

func TestP18_9StatesStayFit(t *testing.T) {
	calls, sizes := map[string]int{}, map[int]int{}
	rows(189, func(a act) {
		if !Fit(a.id, a.is) || !sayFit(a.id, a.is) {
			t.Fatalf("%s at %d: %+v is not fit, behind %+v", a.call, a.id, a.is, a.was)
		}
		if !slices.Equal(Copy(a.is), a.is) || !Fit(a.id, Copy(a.is)) {
			t.Fatalf("Copy of %+v", a.is)
		}
		if !slices.Equal(a.is, a.was) {
			calls[a.call]++
		}
		sizes[len(a.is)]++
	})
	for _, call := range []string{"Learn", "Create", "Delete", "Set", "Tick", "Hear"} {
		if calls[call] < 300 {
			t.Errorf("%d times %s changed something", calls[call], call)
		}
	}
	if sizes[0] == 0 || sizes[1] == 0 || sizes[api.MaxChans] < 1000 {
		t.Errorf("sizes %v", sizes)
	}
}

// All calls at once on each of many states, fit for any node.
func TestP18_9OfDrawnOnes(t *testing.T) {
	d := newDice(1892)
	for range 30000 {
		l, id := d.states(), d.Intn(api.MaxNodes)
		if a := d.draw(l, id); !sayFit(id, a.is) || !Fit(id, a.is) {
			t.Fatalf("%s at %d of %+v: %+v", a.call, id, l, a.is)
		}
	}
}

// What is refused, and what says that nothing was learned, leaves all as it was.
func TestP18_9RefusedLeavesAll(t *testing.T) {
	refused := map[string]int{}
	rows(1893, func(a act) {
		if a.changed {
			return
		}
		refused[a.call]++
		if !slices.Equal(a.is, a.was) {
			t.Fatalf("%s of %q is refused: %+v, was %+v", a.call, a.name, a.is, a.was)
		}
	})
	for _, call := range []string{"Learn", "Create", "Delete", "Set"} {
		if refused[call] < 300 {
			t.Errorf("%d times %s was refused", refused[call], call)
		}
	}
}

func TestP18_10OtherNames(t *testing.T) {
	changed := map[string]int{}
	rows(1810, func(a act) {
		before, behind := book(a.was), book(a.is)
		if len(behind) != len(a.is) {
			t.Fatalf("%s: a name stands twice: %+v", a.call, a.is)
		}
		for _, name := range twelve() {
			was, had := before[name]
			is, has := behind[name]
			switch {
			case !a.isRecord && (had != has || was.Chan != is.Chan):
				t.Fatalf("%s: the record of %s is %+v, was %+v", a.call, name, is.Chan, was.Chan)
			case a.call == "Tick" || name == a.name:
			case had != has || was != is:
				t.Fatalf("%s of %s: of %s there is %+v, was %+v", a.call, a.name, name, is, was)
			}
		}
		if is, has := behind[a.name]; a.isRecord && a.changed && (!has || is != bare(is.Chan) || is.Chan == before[a.name].Chan) {
			t.Fatalf("%s of %s: %+v does not begin anew, was %+v", a.call, a.name, is, before[a.name])
		}
		if !a.isRecord && !slices.Equal(Records(a.is), Records(a.was)) {
			t.Fatalf("%s: records %+v, were %+v", a.call, Records(a.is), Records(a.was))
		}
		if a.changed {
			changed[a.call]++
		}
	})
	for _, call := range []string{"Learn", "Create", "Delete", "Set", "Tick", "Hear"} {
		if changed[call] < 300 {
			t.Errorf("%d times %s", changed[call], call)
		}
	}
}

// What a node has, by itself and told by another one, is no news to it.
func TestP18_11LearnAgain(t *testing.T) {
	d, learned, full := newDice(1811), 0, 0
	for range 10000 {
		l := d.states()
		for _, c := range Records(l) {
			if got, ok := Learn(l, c); ok || !slices.Equal(got, l) {
				t.Fatalf("Learn(%+v, %+v): %+v, %t", l, c, got, ok)
			}
		}
		c := d.record(pick(d, twelve()))
		once, ok := Learn(l, c)
		again, more := Learn(once, c)
		if more || !slices.Equal(again, once) {
			t.Fatalf("Learn(%+v, %+v), and again: %+v, %t, was %+v", l, c, again, more, once)
		}
		if ok {
			learned++
		} else if len(l) == api.MaxChans {
			full++
		}
	}
	if learned < 1000 || full < 100 {
		t.Errorf("%d were learned, %d lists were full", learned, full)
	}
}

// Behind Set, too: an input that was set since is not lost by the record being told once more.
func TestP18_11LearnAgainBehindSet(t *testing.T) {
	for _, kind := range []int{api.KMean, api.KCount, api.KSquare, api.KExt} {
		c := alive("m", 4, 2, kind, 1)
		l, ok := Learn(nil, c)
		set, err := Set(l, 3, "m", 1)
		if !ok || err != api.OK || !set[0].Has {
			t.Fatalf("kind %d: %+v, %t, %d", kind, set, ok, err)
		}
		if got, ok := Learn(set, c); ok || !slices.Equal(got, set) {
			t.Errorf("kind %d: %+v, %t", kind, got, ok)
		}
	}
}

// kept is what was set under a name, and the record that was there.
type kept struct {
	record api.Chan
	input  int64
}

// Whatever is done at a node, an input is what was set last, for as long as the record is the same; behind that there
// is none, until it is set anew.
func TestP18_12InputsHold(t *testing.T) {
	d, lasted, ended := newDice(1812), 0, 0
	for range 300 {
		var l []api.State
		inputs := map[string]kept{}
		id := d.Intn(api.MaxNodes)
		for range 200 {
			a := d.draw(l, id)
			l = a.is
			if a.call == "Set" && a.changed {
				s, _ := Find(l, a.name)
				input, err := sayTold(s.Chan.Kind, s.Chan.Scale, a.x)
				if err != api.OK {
					t.Fatalf("Set to %d: %+v", a.x, s)
				}
				inputs[a.name] = kept{s.Chan, input}
			}
			for _, s := range l {
				k, have := inputs[s.Chan.Name]
				if have && k.record != s.Chan {
					delete(inputs, s.Chan.Name)
					have = false
					ended++
				}
				if have != s.Has || have && s.Input != k.input || !have && s.Input != 0 {
					t.Fatalf("%s of %q: %+v, was set to %+v, %t", a.call, a.name, s, k, have)
				}
			}
			lasted += len(inputs)
		}
	}
	if lasted < 10000 || ended < 1000 {
		t.Errorf("inputs lasted %d calls, %d ended", lasted, ended)
	}
}

// An input is not forgotten, however long nothing but ticks come and however much is heard.
func TestP18_12InputsDoNotGrowOld(t *testing.T) {
	l := []api.State{bare(alive("b", 1, 1, api.KMean, 4)), bare(alive("c", 1, 1, api.KCount, 9)), bare(alive("e", 1, 1, api.KExt, 1)), bare(alive("q", 1, 1, api.KSquare, 4))}
	for name, x := range map[string]int64{"b": -5, "c": 1, "e": -7, "q": 3} {
		err := api.OK
		if l, err = Set(l, 2, name, x); err != api.OK {
			t.Fatal(err)
		}
	}
	for i := range 3 * api.MaxAge {
		l = Hear(Tick(l, 2), 2, "e", of(-9, 5, 60), of(most, 2, 0))
		if l[0].Input != -20 || l[1].Input != 9 || l[2].Input != -7 || l[3].Input != 36 {
			t.Fatalf("behind %d ticks: %+v", i, l)
		}
		if l[2].Min != of(-9, 5, 60) || l[2].Max != of(-7, 2, 0) {
			t.Fatalf("behind %d ticks: %+v", i, l[2])
		}
	}
}
