package node

import (
	"testing"

	"eddy/api"
)

// ticked does a tick and holds it against what is wanted: how the state is changed (beside what every tick of base
// changes), packets and events; and against the words.
func ticked(t *testing.T, what string, st api.Node, do func(st *api.Node), packets []api.Packet, events ...api.Event) api.Node {
	t.Helper()
	want := as(st, func(st *api.Node) { st.Ticks++ })
	do(&want)
	got := check(t, st, act{call: "Tick"})
	expect(t, what, got, came{want, packets, events, api.OK})
	return got.st
}

// older is what becomes of base's extreme values by a tick: -3 is its own input, 9 is a tick older.
func older(st *api.Node) { st.Chans[1].Min, st.Chans[1].Max = of(-3, 2, 0), of(9, 1, 5) }

func olderItems(l []api.Item) []api.Item {
	l[1].Max = of(9, 1, 5)
	return l
}

func hello(to int, life int64) []api.Packet {
	return []api.Packet{{Kind: api.PkHello, From: 2, To: to, Boot: 7, Life: life}}
}

// askOne and askFive are base's Asks.
func askOne(items []api.Item) api.Packet {
	return api.Packet{Kind: api.PkAsk, From: 2, To: 1, Boot: 7, Echo: 4, Items: items}
}

func askFive(items []api.Item) api.Packet {
	return api.Packet{Kind: api.PkAsk, From: 2, To: 5, Boot: 7, Life: 2, Echo: 3, EchoLife: 1, Items: items}
}

func TestP20_3TickNobodyIsWanted(t *testing.T) {
	st := as(base(), func(st *api.Node) { st.Want, st.Turn, st.Halves = nil, 0, nil })
	ticked(t, "nobody is wanted", st, older, nil)
	ticked(t, "a new node", New(3, 1), func(*api.Node) {}, nil)
	for _, e := range []struct{ was, is api.Ext }{{of(4, 1, 0), of(4, 1, 1)}, {of(4, 1, 62), of(4, 1, 63)}, {of(4, 1, 63), none}, {of(4, 2, 0), none}, {none, none}} {
		quiet := as(st, func(st *api.Node) {
			st.Chans[1].Has, st.Chans[1].Input, st.Chans[1].Min, st.Chans[1].Max = false, 0, e.was, e.was
		})
		ticked(t, "extreme values without an input", quiet, func(st *api.Node) { st.Chans[1].Min, st.Chans[1].Max = e.is, e.is }, nil)
	}
	gone := as(st, func(st *api.Node) { st.Chans[1].Min, st.Chans[1].Max = of(-9, 1, 63), of(9, 1, 63) })
	ticked(t, "old extreme values give way to the input", gone, func(st *api.Node) { st.Chans[1].Min, st.Chans[1].Max = of(-3, 2, 0), of(-3, 2, 0) }, nil)
}

func TestP20_3TicksStay(t *testing.T) {
	for _, c := range []struct{ was, is int64 }{{0, 1}, {last - 2, last - 1}, {last - 1, last}, {last, last}} {
		st := as(New(3, 1), func(st *api.Node) { st.Ticks = c.was })
		if got := check(t, st, act{call: "Tick"}); got.st.Ticks != c.is {
			t.Errorf("behind tick %d: %d", c.was, got.st.Ticks)
		}
		st = as(base(), func(st *api.Node) { st.Ticks = c.was })
		if got := check(t, st, act{call: "Tick"}); got.st.Ticks != c.is || len(got.packets) != 1 || got.st.Turn != 2 {
			t.Errorf("base behind tick %d: %d, %+v", c.was, got.st.Ticks, got.packets)
		}
	}
}

// All turns of base: no half-edge to 0 and 9, an ask that is pending to 5, nothing pending to 1.
func TestP20_3TickByTurns(t *testing.T) {
	st := ticked(t, "5, a miss", base(), func(st *api.Node) {
		older(st)
		st.Turn, st.Halves[1].Misses = 2, 2
	}, []api.Packet{askFive(olderItems(toFive()))})
	oldest := func(l []api.Item, age int64) []api.Item {
		l[1].Max = of(9, 1, age)
		return l
	}
	age := func(st *api.Node, age int64) { st.Chans[1].Max = of(9, 1, age) }
	st = ticked(t, "0, a Hello that bears the own life", st, func(st *api.Node) { age(st, 6); st.Turn = 3 }, hello(0, 1))
	st = ticked(t, "1, nothing pending", st, func(st *api.Node) {
		age(st, 7)
		st.Turn, st.Halves[0].Pending = 0, true
	}, []api.Packet{askOne(oldest(toOne(), 7))})
	st = ticked(t, "9, of whom nothing was seen", st, func(st *api.Node) { age(st, 8); st.Turn = 1 }, hello(9, 0))
	st = ticked(t, "5, the third miss", st, func(st *api.Node) {
		age(st, 9)
		st.Turn, st.Seen[2].Mine, st.Halves = 2, 3, st.Halves[:1]
	}, hello(5, 3), dropped(5, api.DropMiss))
	// The one that went is gone with what it took.
	if x, err := Estimate(st, "m"); x != 13 || err != api.OK {
		t.Errorf("m behind the drop: %d, %d", x, err)
	}
	if x, err := Estimate(st, "c"); x != 1000 || err != api.OK {
		t.Errorf("c behind the drop: %d, %d", x, err)
	}
}

func TestP20_3Misses(t *testing.T) {
	for _, c := range []struct {
		pending bool
		misses  int
		is      int // misses behind; below 0: it is dropped
	}{{false, 0, 0}, {true, 0, 1}, {true, 1, 2}, {true, 2, -1}} {
		st := as(base(), func(st *api.Node) { st.Halves[1].Pending, st.Halves[1].Misses = c.pending, c.misses })
		got := check(t, st, act{call: "Tick"})
		if c.is < 0 {
			if len(got.st.Halves) != 1 || len(got.packets) != 1 || got.packets[0].Kind != api.PkHello || got.packets[0].Life != 3 || len(got.events) != 1 || got.events[0] != dropped(5, api.DropMiss) {
				t.Errorf("%+v: %+v", c, got)
			}
			continue
		}
		h := got.st.Halves[1]
		if !h.Pending || h.Misses != c.is || len(h.Lines) != 2 || len(got.events) != 0 || len(got.packets) != 1 || got.packets[0].Kind != api.PkAsk || got.packets[0].To != 5 {
			t.Errorf("%+v: %+v", c, got)
		}
	}
}

// The own life stays at its end, also in the Hello behind the drop.
func TestP20_3TheLastLife(t *testing.T) {
	for _, c := range []struct{ was, is int64 }{{last - 1, last}, {last, last}} {
		st := as(base(), func(st *api.Node) { st.Halves[1].Misses, st.Seen[2].Mine = 2, c.was })
		ticked(t, "the last life", st, func(st *api.Node) {
			older(st)
			st.Turn, st.Seen[2].Mine, st.Halves = 2, c.is, st.Halves[:1]
		}, hello(5, c.is), dropped(5, api.DropMiss))
	}
}

// Of a single neighbour it is the turn again and again.
func TestP20_3OneNeighbour(t *testing.T) {
	st := as(New(2, 7), func(st *api.Node) { st.Want = []int{5} })
	for range 3 {
		st = ticked(t, "a Hello", st, func(*api.Node) {}, hello(5, 0))
	}
}

// A rest that leaves its range is told as EvRange, channel by channel; the Ask goes all the same, without it.
func TestP20_3RestOutOfRange(t *testing.T) {
	st := as(base(), func(st *api.Node) {
		st.Chans[3].Input = most // 1 takes -5
		st.Chans[0].Input = -most
		st.Halves[0].Lines = []api.Line{line("c", 1, 2, -1), line("m", 1, 1, 5), line("q", 1, 1, most)} // what 1 takes is the opposite of the flow
	})
	items := olderItems(toFive())
	items[0].HasRest, items[0].Rest = false, 0
	items[3].HasRest, items[3].Rest = false, 0
	items[4].Rest = most
	ticked(t, "two rests", st, func(st *api.Node) {
		older(st)
		st.Turn, st.Halves[1].Misses = 2, 2
	}, []api.Packet{askFive(items)}, beyond(5, "c"), beyond(5, "m"))
	// Towards 1 the half-edge that takes too much is left out; that to 5 takes 7 of m and -250 of c.
	items = olderItems(toOne())
	items[0].Reg, items[0].Rest = api.Reg{Ver: 1, Writer: 2, Flow: -1}, -most+250
	items[3].Rest = most - 7
	items[4].Reg = api.Reg{Ver: 1, Writer: 1, Flow: most}
	ticked(t, "rests that are at their ends", as(st, func(st *api.Node) { st.Turn = 3 }), func(st *api.Node) {
		older(st)
		st.Turn, st.Halves[0].Pending = 0, true
	}, []api.Packet{askOne(items)})
	// A Hello tells of no rest.
	ticked(t, "a Hello", as(st, func(st *api.Node) { st.Turn = 0 }), func(st *api.Node) {
		older(st)
		st.Turn = 1
	}, hello(9, 0))
	// Nor does a drop.
	ticked(t, "a drop", as(st, func(st *api.Node) { st.Halves[1].Misses = 2 }), func(st *api.Node) {
		older(st)
		st.Turn, st.Seen[2].Mine, st.Halves = 2, 3, st.Halves[:1]
	}, hello(5, 3), dropped(5, api.DropMiss))
}
