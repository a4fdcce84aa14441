package world

import (
	"fmt"
	"slices"
	"testing"

	"eddy/api"
)

// enough says of which sorts there were too few.
func enough(t *testing.T, sorts map[string]int, least int, wanted ...string) {
	t.Helper()
	for _, s := range wanted {
		if sorts[s] < least {
			t.Errorf("%d of %q", sorts[s], s)
		}
	}
}

// wanted are the sorts of which drawn steps are to be.
func wanted() []string {
	l := []string{"none"}
	for kind, errs := range map[int][]api.Errno{
		api.StLink:    {api.ErrNode, api.ErrDown, api.ErrSelf, api.ErrHave},
		api.StUnlink:  {api.ErrNode, api.ErrDown, api.ErrNone},
		api.StCreate:  {api.ErrNode, api.ErrDown, api.ErrHave, api.ErrKind, api.ErrScale, api.ErrName},
		api.StDelete:  {api.ErrNode, api.ErrDown, api.ErrNone},
		api.StSet:     {api.ErrNode, api.ErrDown, api.ErrNone, api.ErrRange, api.ErrUnit},
		api.StTick:    {api.ErrNode, api.ErrDown},
		api.StDeliver: {}, api.StDrop: {}, api.StDouble: {}, api.StFlush: {}, api.StRound: {},
		api.StCrash:   {api.ErrNode, api.ErrDown},
		api.StRestart: {api.ErrNode, api.ErrUp, api.ErrDead},
		api.StSever:   {api.ErrNode, api.ErrSelf},
		api.StMend:    {api.ErrNode, api.ErrSelf},
	} {
		for _, err := range append(errs, api.OK) {
			l = append(l, fmt.Sprint(kind, " ", int(err)))
		}
	}
	for event := range api.NumEvents - 1 {
		l = append(l, fmt.Sprint("event ", event+1))
	}
	return l
}

// P21.3 and P21.7: steps of all kinds in worlds of all sorts, by the words.
func TestP21_3ByTheWords(t *testing.T) {
	d, sorts := newDice(2), map[string]int{}
	for range 1000 {
		w := d.fit()
		for range 14 {
			x := d.any(len(w.Nodes))
			switch d.Intn(5) {
			case 0, 1:
				x = d.step(1+d.Intn(15), len(w.Nodes))
			case 2:
				if id := slices.Index(w.Up, false); id >= 0 {
					x = api.Step{Kind: api.StRestart, A: id, N: d.number(api.StRestart)}
				}
			}
			got, o := check(t, w, x)
			for _, s := range sort(x, w, got, o) {
				sorts[s]++
			}
		}
	}
	enough(t, sorts, 5, wanted()...)
	enough(t, sorts, 5, fmt.Sprint(api.StRestart, " ", int(api.ErrLast)))
	for _, kind := range []int{api.StTick, api.StDeliver, api.StDouble, api.StFlush, api.StRound, api.StSever} {
		enough(t, sorts, 5, fmt.Sprint(kind, " loses"))
	}
}

// One step behind the other, by the words: what one has left the next one finds.
func TestP21_3RowsByTheWords(t *testing.T) {
	d, sorts := newDice(3), map[string]int{}
	for seed := range 60 {
		n := 1 + seed%6
		w, err := New(n)
		if err != api.OK {
			t.Fatal(err)
		}
		for _, x := range d.script(n, 400) {
			got, o := check(t, w, x)
			for _, s := range sort(x, w, got, o) {
				sorts[s]++
			}
			w = got
		}
	}
	enough(t, sorts, 3, wanted()...)
}
