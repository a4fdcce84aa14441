package node

import (
	"math"
	"slices"
	"strings"
	"testing"

	"eddy/api"
)

// called calls a node, and holds what comes against what is wanted and the words.
func called(t *testing.T, what string, st api.Node, a act, do func(st *api.Node), packets []api.Packet, events []api.Event) api.Node {
	t.Helper()
	want := as(st, do)
	got := check(t, st, a)
	expect(t, what, got, came{want, packets, events, api.OK})
	return got.st
}

// refused calls a node that refuses.
func refused(t *testing.T, what string, st api.Node, a act, err api.Errno) {
	t.Helper()
	expect(t, what, check(t, st, a), came{st, nil, nil, err})
}

// edgeless is base without half-edges.
func edgeless() api.Node { return as(base(), func(st *api.Node) { st.Halves = nil }) }

func TestP20_5Link(t *testing.T) {
	for _, st := range []api.Node{base(), edgeless()} {
		for _, v := range []int{3, 4, 15, 7} {
			called(t, "Link", st, act{call: "Link", v: v}, func(st *api.Node) { st.Want = append(st.Want, v) }, nil, nil)
		}
		for _, v := range []int{16, 17, -1, math.MaxInt, math.MinInt, 1<<32 + 3} {
			refused(t, "no node", st, act{call: "Link", v: v}, api.ErrNode)
		}
		refused(t, "itself", st, act{call: "Link", v: 2}, api.ErrSelf)
		for _, v := range st.Want {
			refused(t, "wanted already", st, act{call: "Link", v: v}, api.ErrHave)
		}
		full := as(st, func(st *api.Node) { st.Want = append(st.Want, 14, 15) })
		for _, v := range []int{3, 4, 6, 7} {
			refused(t, "six are wanted", full, act{call: "Link", v: v}, api.ErrDegree)
		}
		refused(t, "six are wanted, no node", full, act{call: "Link", v: 16}, api.ErrNode)
		refused(t, "six are wanted, itself", full, act{call: "Link", v: 2}, api.ErrSelf)
		refused(t, "six are wanted, that one too", full, act{call: "Link", v: 15}, api.ErrHave)
	}
	called(t, "the first one", New(0, last), act{call: "Link", v: 15}, func(st *api.Node) { st.Want = []int{15} }, nil, nil)
}

func TestP20_5Unlink(t *testing.T) {
	bye := func(to int, mine, echo, echoLife int64) []api.Packet {
		return []api.Packet{{Kind: api.PkBye, From: 2, To: to, Boot: 7, Life: mine, Echo: echo, EchoLife: echoLife}}
	}
	st := called(t, "held", base(), act{call: "Unlink", v: 5}, func(st *api.Node) {
		st.Want, st.Halves, st.Seen[2].Mine = []int{9, 0, 1}, st.Halves[:1], 3
	}, bye(5, 2, 3, 1), []api.Event{dropped(5, api.DropUnlink)})
	if x, err := Estimate(st, "m"); x != 13 || err != api.OK {
		t.Errorf("m behind Unlink: %d, %d", x, err)
	}
	refused(t, "again", st, act{call: "Unlink", v: 5}, api.ErrNone)
	st = called(t, "held, of the life 0", st, act{call: "Unlink", v: 1}, func(st *api.Node) {
		st.Want, st.Halves, st.Seen[1].Mine = []int{9, 0}, nil, 1
	}, bye(1, 0, 4, 0), []api.Event{dropped(1, api.DropUnlink)})
	st = called(t, "not held, ahead of the turn", st, act{call: "Unlink", v: 9}, func(st *api.Node) { st.Want, st.Turn = []int{0}, 0 }, nil, nil)
	called(t, "the last one", st, act{call: "Unlink", v: 0}, func(st *api.Node) { st.Want = nil }, nil, nil)
	// The half-edge names an earlier incarnation than was seen: that is its Echo.
	called(t, "an earlier one is named", as(base(), func(st *api.Node) { st.Halves[1].Boot, st.Halves[1].Life = 2, 9 }), act{call: "Unlink", v: 5}, func(st *api.Node) {
		st.Want, st.Halves, st.Seen[2].Mine = []int{9, 0, 1}, st.Halves[:1], 3
	}, bye(5, 2, 2, 9), []api.Event{dropped(5, api.DropUnlink)})
	called(t, "the last life", as(base(), func(st *api.Node) { st.Seen[2].Mine = last }), act{call: "Unlink", v: 5}, func(st *api.Node) {
		st.Want, st.Halves = []int{9, 0, 1}, st.Halves[:1]
	}, bye(5, last, 3, 1), []api.Event{dropped(5, api.DropUnlink)})
	// Places.
	for _, c := range []struct {
		turn, v, is int
	}{{0, 9, 0}, {1, 9, 0}, {3, 9, 2}, {0, 0, 0}, {2, 0, 2}, {3, 0, 2}} {
		called(t, "the turn", as(base(), func(st *api.Node) { st.Turn = c.turn }), act{call: "Unlink", v: c.v}, func(st *api.Node) {
			st.Want = slices.DeleteFunc(st.Want, func(v int) bool { return v == c.v })
			st.Turn = c.is
		}, nil, nil)
	}
	called(t, "the turn, at the end", as(edgeless(), func(st *api.Node) { st.Turn = 3 }), act{call: "Unlink", v: 1}, func(st *api.Node) { st.Want, st.Turn = []int{9, 5, 0}, 0 }, nil, nil)
	for _, st := range []api.Node{base(), edgeless(), New(2, 7)} {
		for _, v := range []int{2, 3, 15, 16, -1, math.MaxInt, math.MinInt, 1<<32 + 5} {
			refused(t, "not wanted", st, act{call: "Unlink", v: v}, api.ErrNone)
		}
	}
}

// Behind Link there is a Hello in its turn, and behind Unlink and Link the own life is still known.
func TestP20_5LinkBehindUnlink(t *testing.T) {
	st := check(t, base(), act{call: "Unlink", v: 5}).st
	st = check(t, st, act{call: "Link", v: 5}).st
	if !slices.Equal(st.Want, []int{9, 0, 1, 5}) || st.Turn != 1 {
		t.Fatalf("%+v", st)
	}
	st.Turn = 3
	if got := check(t, st, act{call: "Tick"}); len(got.packets) != 1 || got.packets[0].Kind != api.PkHello || got.packets[0].Life != 3 {
		t.Errorf("%+v", got)
	}
}

// asksOf are Asks to 1 and 5, as base holds them.
func asksOf(st api.Node) []api.Packet {
	return []api.Packet{askOne(sayItems(st, 1)), askFive(sayItems(st, 5))}
}

// pending is that both of base's Asks are.
func pending(st *api.Node) { st.Halves[0].Pending, st.Halves[1].Pending = true, true }

func TestP20_5Create(t *testing.T) {
	for _, c := range []struct {
		what string
		name string
		kind int
		x    int64
		at   int
		new  bool
		is   api.Chan
	}{
		{"the first one", "a", api.KMean, 1, 0, true, on("a", 1, 2, api.KMean, 1)},
		{"between", "k", api.KCount, mostScale, 3, true, on("k", 1, 2, api.KCount, mostScale)},
		{"the last one", strings.Repeat("z", 16), api.KExt, 1, 5, true, on(strings.Repeat("z", 16), 1, 2, api.KExt, 1)},
		{"what was not alive", "g", api.KSquare, 7, 2, false, on("g", 5, 2, api.KSquare, 7)},
	} {
		do := func(st *api.Node) {
			if c.new {
				st.Chans = slices.Insert(st.Chans, c.at, api.State{})
			}
			st.Chans[c.at] = api.State{Chan: c.is}
		}
		a := act{call: "Create", name: c.name, kind: c.kind, x: c.x}
		events := []api.Event{learned(c.name, c.is.Epoch)}
		called(t, c.what, edgeless(), a, do, nil, events)
		both := func(st *api.Node) { do(st); pending(st) }
		called(t, c.what, base(), a, both, asksOf(as(base(), both)), events)
	}
	m := on("m", 1, 15, api.KMean, 1)
	called(t, "at a new node", New(15, 1), act{call: "Create", name: "m", kind: api.KMean, x: 1}, func(st *api.Node) { st.Chans = []api.State{{Chan: m}} }, nil, []api.Event{learned("m", 1)})
}

func TestP20_5CreateErrors(t *testing.T) {
	full := func(st *api.Node) {
		st.Chans = append(st.Chans, api.State{Chan: gone("r", 1, 1, 1, 1)}, api.State{Chan: on("s", 1, 1, 1, 1)}, api.State{Chan: gone("t", last, 1, 1, 1)})
	}
	for _, st := range []api.Node{as(base(), full), as(edgeless(), full)} {
		for _, name := range []string{"", "M", "a b", "é", "a\x00", strings.Repeat("z", 17), "m "} {
			refused(t, "no name", st, act{call: "Create", name: name, kind: 9, x: 0}, api.ErrName)
		}
		for _, kind := range []int{0, 5, -1, math.MaxInt, math.MinInt, 1<<32 + 1} {
			refused(t, "no kind", st, act{call: "Create", name: "m", kind: kind, x: 0}, api.ErrKind)
		}
		for _, x := range []int64{0, -1, mostScale + 1, math.MaxInt64, math.MinInt64, 1<<32 + 1} {
			for kind := api.KMean; kind <= api.KExt; kind++ {
				refused(t, "no scale", st, act{call: "Create", name: "m", kind: kind, x: x}, api.ErrScale)
			}
		}
		refused(t, "no scale of KExt", st, act{call: "Create", name: "n", kind: api.KExt, x: 2}, api.ErrScale)
		for _, name := range []string{"c", "e", "m", "q", "s"} {
			refused(t, "there already", st, act{call: "Create", name: name, kind: api.KMean, x: 1}, api.ErrHave)
		}
		refused(t, "no room", st, act{call: "Create", name: "n", kind: api.KMean, x: 1}, api.ErrChans)
		refused(t, "the last epoch", st, act{call: "Create", name: "t", kind: api.KMean, x: 1}, api.ErrLast)
		if got := check(t, st, act{call: "Create", name: "r", kind: api.KMean, x: 1}); got.err != api.OK || got.st.Chans[5].Chan != on("r", 2, 2, api.KMean, 1) {
			t.Errorf("anew, where there is no room: %+v", got)
		}
	}
}

func TestP20_5Delete(t *testing.T) {
	for i, s := range base().Chans {
		if !s.Chan.Alive {
			continue
		}
		is := gone(s.Chan.Name, s.Chan.Epoch+1, 2, s.Chan.Kind, s.Chan.Scale)
		a, events := act{call: "Delete", name: s.Chan.Name}, []api.Event{learned(s.Chan.Name, is.Epoch)}
		do := func(st *api.Node) {
			st.Chans[i] = api.State{Chan: is}
			for h := range st.Halves {
				st.Halves[h].Lines = slices.DeleteFunc(st.Halves[h].Lines, func(l api.Line) bool { return l.Name == s.Chan.Name })
			}
		}
		called(t, "no half-edges", edgeless(), a, do, nil, events)
		both := func(st *api.Node) { do(st); pending(st) }
		st := called(t, "half-edges", base(), a, both, asksOf(as(base(), both)), events)
		refused(t, "again", st, a, api.ErrNone)
	}
	for _, st := range []api.Node{base(), edgeless(), New(2, 7)} {
		for _, name := range []string{"g", "x", "", "M", "mm", "m\x00", strings.Repeat("m", 17)} {
			refused(t, "not there", st, act{call: "Delete", name: name}, api.ErrNone)
		}
	}
	for _, st := range []api.Node{base(), edgeless()} {
		for i, epoch := range []int64{last, last - 1} {
			st.Chans[3].Chan.Epoch = epoch
			got := check(t, st, act{call: "Delete", name: "m"})
			if want := []api.Errno{api.ErrLast, api.OK}[i]; got.err != want {
				t.Errorf("epoch %d: %+v", epoch, got)
			}
		}
	}
}

// A channel that is made or taken away: the Asks tell of rests that leave their range, peer by peer, behind EvLearned.
func TestP20_5AsksOutOfRange(t *testing.T) {
	st := as(base(), func(st *api.Node) {
		st.Chans[0].Input, st.Chans[3].Input = -most, -most
		st.Halves[0].Lines = []api.Line{line("c", 1, 1, -most), line("m", 1, 1, -5)} // it takes what is the opposite
	})
	for _, c := range []struct {
		a     act
		do    func(st *api.Node)
		epoch int64
	}{
		{act{call: "Create", name: "n", kind: api.KMean, x: 1}, func(st *api.Node) {
			st.Chans = slices.Insert(st.Chans, 4, api.State{Chan: on("n", 1, 2, api.KMean, 1)})
		}, 1},
		{act{call: "Delete", name: "q"}, func(st *api.Node) { st.Chans[4] = api.State{Chan: gone("q", 2, 2, api.KSquare, 4)} }, 2},
	} {
		both := func(st *api.Node) { c.do(st); pending(st) }
		events := []api.Event{learned(c.a.name, c.epoch), beyond(1, "m"), beyond(5, "c"), beyond(5, "m")}
		called(t, c.a.call, st, c.a, both, asksOf(as(st, both)), events)
	}
	// Of one that is taken away itself nothing is told but that.
	got := check(t, st, act{call: "Delete", name: "m"})
	if !slices.Equal(got.events, []api.Event{learned("m", 2), beyond(5, "c")}) {
		t.Errorf("taken away: %+v", got.events)
	}
}

func TestP20_5Set(t *testing.T) {
	for _, edges := range []api.Node{base(), edgeless()} {
		for _, c := range []struct {
			name string
			at   int
			x    int64
			is   int64
			err  api.Errno
		}{
			{"m", 3, -5, -5, api.OK}, {"m", 3, 0, 0, api.OK}, {"m", 3, most, most, api.OK}, {"m", 3, -most, -most, api.OK},
			{"m", 3, most + 1, 0, api.ErrRange}, {"m", 3, -most - 1, 0, api.ErrRange}, {"m", 3, math.MinInt64, 0, api.ErrRange}, {"m", 3, math.MaxInt64, 0, api.ErrRange},
			{"c", 0, 1, 1000, api.OK}, {"c", 0, 0, 0, api.OK}, {"c", 0, 2, 0, api.ErrUnit}, {"c", 0, -1, 0, api.ErrUnit}, {"c", 0, math.MaxInt64, 0, api.ErrUnit},
			{"q", 4, -3, 36, api.OK}, {"q", 4, 23170, 4 * 23170 * 23170, api.OK}, {"q", 4, 23171, 0, api.ErrRange}, {"q", 4, math.MinInt64, 0, api.ErrRange},
			{"e", 1, most + 1, 0, api.ErrRange}, {"g", 2, 1, 0, api.ErrNone}, {"x", 0, 1, 0, api.ErrNone}, {"", 0, 1, 0, api.ErrNone},
		} {
			a := act{call: "Set", name: c.name, x: c.x}
			if c.err != api.OK {
				refused(t, "Set "+c.name, edges, a, c.err)
				continue
			}
			called(t, "Set "+c.name, edges, a, func(st *api.Node) { st.Chans[c.at].Has, st.Chans[c.at].Input = true, c.is }, nil, nil)
		}
		for _, c := range []struct {
			x               int64
			least, greatest api.Ext
		}{{-9, of(-9, 2, 0), of(9, 1, 4)}, {3, of(3, 2, 0), of(9, 1, 4)}, {9, of(9, 2, 0), of(9, 2, 0)}, {most, of(most, 2, 0), of(most, 2, 0)}} {
			called(t, "Set e", edges, act{call: "Set", name: "e", x: c.x}, func(st *api.Node) {
				st.Chans[1].Input, st.Chans[1].Min, st.Chans[1].Max = c.x, c.least, c.greatest
			}, nil, nil)
		}
	}
}

// What is set is in the estimate at once.
func TestP20_5SetThenEstimate(t *testing.T) {
	st := check(t, base(), act{call: "Set", name: "m", x: 100}).st
	if x, err := Estimate(st, "m"); x != 98 || err != api.OK {
		t.Errorf("%d, %d", x, err)
	}
	if x, err := Rest(st, "m", 5); x != 105 || err != api.OK {
		t.Errorf("%d, %d", x, err)
	}
	st = check(t, st, act{call: "Set", name: "m", x: most}).st // 1 takes -5, 5 takes 7: what comes is 2 less
	if x, err := Estimate(st, "m"); x != most-2 || err != api.OK {
		t.Errorf("%d, %d", x, err)
	}
	if x, err := Rest(st, "m", 5); x != 0 || err != api.ErrRange {
		t.Errorf("%d, %d", x, err)
	}
}
