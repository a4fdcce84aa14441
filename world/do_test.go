package world

import (
	"math"
	"slices"
	"strings"
	"testing"

	"eddy/api"
	"eddy/node"
	"eddy/wire"
)

// does does a step that has no error, and wants a world that is changed so, and events.
func does(t *testing.T, what string, w api.World, x api.Step, do func(w *api.World), events ...api.Told) api.World {
	t.Helper()
	want := deep(w)
	do(&want)
	got, o := check(t, w, x)
	if o.Err != api.OK || !slices.Equal(o.Events, events) {
		t.Errorf("%s, %+v: %+v, want %+v", what, x, o, events)
	}
	if !alike(got, want) {
		t.Errorf("%s, %+v:\n%+v, want\n%+v", what, x, got, want)
	}
	return got
}

func nothing(*api.World) {}

// ofKind are the kinds that use a field.
func ofKind(field string) []int {
	var l []int
	for kind := api.StLink; kind <= api.StMend; kind++ {
		if s, _ := uses(kind); strings.Contains(s, field) {
			l = append(l, kind)
		}
	}
	return l
}

// beyond are no nodes of a world of n.
func beyond(n int) []int {
	return []int{math.MinInt, -1 << 32, -16, -1, n, n + 1, 16, 17, 1 << 32, 1<<32 + 1, math.MaxInt}
}

func TestP21_3WhatIsNoStep(t *testing.T) {
	w := base()
	for _, x := range []api.Step{
		{}, {Kind: -1}, {Kind: 16}, {Kind: math.MaxInt}, {Kind: math.MinInt}, {A: 1}, {Kind: 16, A: 9, Name: "m"},
		{Kind: api.StTick, Name: "m"}, {Kind: api.StTick, B: 1}, {Kind: api.StTick, N: 1}, {Kind: api.StTick, K: 1},
		{Kind: api.StDeliver, N: -1}, {Kind: api.StDrop, N: -1}, {Kind: api.StDouble, N: math.MinInt64}, {Kind: api.StDeliver, A: 1},
		{Kind: api.StFlush, A: 1}, {Kind: api.StRound, N: 1}, {Kind: api.StCrash, B: 1}, {Kind: api.StRestart, Name: "m"},
		{Kind: api.StLink, B: 1, N: 1}, {Kind: api.StSever, B: 1, K: 1}, {Kind: api.StDelete, Name: "m", N: 1}, {Kind: api.StSet, Name: "m", K: 1},
		// Other errors would apply as well: this one comes first.
		{Kind: api.StTick, A: 9, Name: "m"}, {Kind: api.StTick, A: 2, B: 1}, {Kind: api.StRestart, A: 0, K: 1}, {Kind: api.StSever, N: 1}, {Kind: api.StCreate, A: -1, B: 1},
	} {
		refuses(t, "no step", w, x, api.ErrStep)
	}
	refuses(t, "nothing in flight", fresh(t, 2), deliver(-1), api.ErrStep)
}

func TestP21_3NoNode(t *testing.T) {
	for _, w := range []api.World{base(), fresh(t, 1), fresh(t, 15)} {
		for _, v := range beyond(len(w.Nodes)) {
			if v >= 0 && v < len(w.Nodes) {
				continue
			}
			for _, kind := range ofKind("A") {
				refuses(t, "A is no node", w, api.Step{Kind: kind, A: v}, api.ErrNode)
			}
			for _, kind := range ofKind("B") {
				refuses(t, "B is no node", w, api.Step{Kind: kind, B: v}, api.ErrNode)
				refuses(t, "neither is a node", w, api.Step{Kind: kind, A: v, B: v}, api.ErrNode)
			}
		}
	}
	w := base() // 2 is down
	for _, kind := range []int{api.StLink, api.StUnlink} {
		refuses(t, "A is down, B is no node", w, api.Step{Kind: kind, A: 2, B: 4}, api.ErrNode)
		refuses(t, "A is no node, B is down", w, api.Step{Kind: kind, A: 4, B: 2}, api.ErrNode)
	}
	refuses(t, "no node, and no name", w, api.Step{Kind: api.StCreate, A: 4, Name: "M", K: 9}, api.ErrNode)
	refuses(t, "no node, and no channel", w, setting(4, "x", 1<<40), api.ErrNode)
	refuses(t, "there could be one of 16", w, tick(15), api.ErrNode)
}

func TestP21_3Down(t *testing.T) {
	w := base() // 2 is down
	for _, kind := range ofKind("A") {
		if kind == api.StRestart || kind == api.StSever || kind == api.StMend {
			continue
		}
		refuses(t, "A is down", w, api.Step{Kind: kind, A: 2}, api.ErrDown)
	}
	refuses(t, "A is down, and is B", w, link(2, 2), api.ErrDown)
	refuses(t, "A is down, and does not want B", w, api.Step{Kind: api.StUnlink, A: 2, B: 1}, api.ErrDown)
	refuses(t, "A is down, and there is no such name", w, api.Step{Kind: api.StCreate, A: 2, Name: "M"}, api.ErrDown)
	refuses(t, "A is down, and there is no such channel", w, setting(2, "x", 1), api.ErrDown)
	// That B is down is no error.
	does(t, "B is down", w, link(0, 2), func(w *api.World) { w.Nodes[0].Want = []int{1, 2} })
	does(t, "B is down", w, api.Step{Kind: api.StUnlink, A: 3, B: 2}, func(w *api.World) { w.Nodes[3].Want = nil })
	// All are down.
	w, _ = steps(t, fresh(t, 2), crash(0), crash(1))
	refuses(t, "all are down", w, tick(0), api.ErrDown)
	refuses(t, "all are down", w, crash(1), api.ErrDown)
}

// What a node refuses its step refuses, and nothing is told or put.
func TestP21_3WhatANodeRefuses(t *testing.T) {
	w := base()
	create := func(a int, name string, kind int, scale int64) api.Step {
		return api.Step{Kind: api.StCreate, A: a, Name: name, K: kind, N: scale}
	}
	for _, c := range []struct {
		x   api.Step
		err api.Errno
	}{
		{link(0, 0), api.ErrSelf}, {link(3, 3), api.ErrSelf}, {link(0, 1), api.ErrHave}, {link(3, 2), api.ErrHave},
		{api.Step{Kind: api.StUnlink, A: 0, B: 3}, api.ErrNone}, {api.Step{Kind: api.StUnlink, A: 0, B: 0}, api.ErrNone},
		{create(0, "", 1, 1), api.ErrName}, {create(0, "M", 0, 0), api.ErrName}, {create(0, "abcdefghijklmnopq", 1, 1), api.ErrName},
		{create(0, "n", 0, 1), api.ErrKind}, {create(0, "n", 5, 1), api.ErrKind}, {create(0, "n", -1, 0), api.ErrKind},
		{create(0, "n", 1, 0), api.ErrScale}, {create(0, "n", 1, 1<<20+1), api.ErrScale}, {create(0, "n", api.KExt, 2), api.ErrScale},
		{create(0, "m", 1, 1), api.ErrHave}, {create(1, "e", 1, 1), api.ErrHave},
		{api.Step{Kind: api.StDelete, A: 0, Name: "n"}, api.ErrNone}, {api.Step{Kind: api.StDelete, A: 3, Name: "m"}, api.ErrNone}, {api.Step{Kind: api.StDelete, A: 0}, api.ErrNone},
		{setting(0, "n", 1), api.ErrNone}, {setting(3, "m", 1), api.ErrNone}, {setting(0, "m", 1<<31), api.ErrRange}, {setting(0, "m", math.MinInt64), api.ErrRange},
	} {
		refuses(t, "the node refuses", w, c.x, c.err)
	}
	w, _ = steps(t, fresh(t, 16), link(3, 0), link(3, 1), link(3, 2), link(3, 4), link(3, 5), link(3, 15))
	refuses(t, "six are wanted", w, link(3, 7), api.ErrDegree)
	l := []api.Step{creating(0, "c", api.KCount)}
	for _, name := range []string{"1", "2", "3", "4", "5", "6", "7"} {
		l = append(l, creating(0, name, api.KMean))
	}
	w, _ = steps(t, fresh(t, 1), l...)
	refuses(t, "eight channels", w, creating(0, "8", api.KMean), api.ErrChans)
	refuses(t, "neither 0 nor 1", w, setting(0, "c", 2), api.ErrUnit)
	w.Nodes[0].Chans[0].Chan.Epoch = lastBoot
	refuses(t, "the last epoch", w, api.Step{Kind: api.StDelete, Name: "1"}, api.ErrLast)
}

func TestP21_3Link(t *testing.T) {
	w := fresh(t, 3)
	w = does(t, "the first", w, link(2, 0), func(w *api.World) { w.Nodes[2].Want = []int{0} })
	w = does(t, "the second", w, link(2, 1), func(w *api.World) { w.Nodes[2].Want = []int{0, 1} })
	does(t, "the other way", w, link(0, 2), func(w *api.World) { w.Nodes[0].Want = []int{2} })
}

func TestP21_3Unlink(t *testing.T) {
	w := shared(t)
	w = does(t, "held", w, api.Step{Kind: api.StUnlink, A: 0, B: 1}, func(w *api.World) {
		w.Nodes[0].Want, w.Nodes[0].Halves, w.Nodes[0].Seen[0].Mine = nil, nil, 1
		put(w, api.Packet{Kind: api.PkBye, From: 0, To: 1, Boot: 1, Echo: 1})
	}, dropped(0, 1, api.DropUnlink))
	estimateIs(t, w, 0, "m", 10)
	estimateIs(t, w, 1, "m", 5)
	w, events := steps(t, w, flush())
	eventsAre(t, "the Bye", events, dropped(1, 0, api.DropBye))
	estimateIs(t, w, 1, "m", 0)
	w, _ = steps(t, w, link(0, 1))
	does(t, "not held", w, api.Step{Kind: api.StUnlink, A: 0, B: 1}, func(w *api.World) { w.Nodes[0].Want = nil })
}

func TestP21_3CreateAndDelete(t *testing.T) {
	w, _ := pair(t)
	m := api.Chan{Name: "m", Epoch: 1, Maker: 1, Alive: true, Kind: api.KSquare, Scale: 4}
	w = does(t, "create", w, api.Step{Kind: api.StCreate, A: 1, Name: "m", K: api.KSquare, N: 4}, func(w *api.World) {
		w.Nodes[1].Chans, w.Nodes[1].Halves[0].Pending = []api.State{{Chan: m}}, true
		put(w, api.Packet{Kind: api.PkAsk, From: 1, To: 0, Boot: 1, Echo: 1, Items: []api.Item{{Chan: m, HasRest: true}}})
	}, learned(1, "m", 1))
	w, events := steps(t, w, flush())
	eventsAre(t, "the other one hears", events, learned(0, "m", 1))
	gone := api.Chan{Name: "m", Epoch: 2, Maker: 0, Kind: api.KSquare, Scale: 4}
	w = does(t, "delete", w, api.Step{Kind: api.StDelete, A: 0, Name: "m"}, func(w *api.World) {
		w.Nodes[0].Chans, w.Nodes[0].Halves[0].Pending = []api.State{{Chan: gone}}, true
		put(w, api.Packet{Kind: api.PkAsk, From: 0, To: 1, Boot: 1, Echo: 1, Items: []api.Item{{Chan: gone}}})
	}, learned(0, "m", 2))
	_, events = steps(t, w, flush())
	eventsAre(t, "the other one hears", events, learned(1, "m", 2))
}

func TestP21_3Set(t *testing.T) {
	w := shared(t)
	does(t, "an input", w, setting(1, "m", -3), func(w *api.World) { w.Nodes[1].Chans[0].Input = -3 })
	does(t, "the greatest", w, setting(0, "m", 1<<31-1), func(w *api.World) { w.Nodes[0].Chans[0].Input = 1<<31 - 1 })
	does(t, "the least", w, setting(0, "m", -(1<<31-1)), func(w *api.World) { w.Nodes[0].Chans[0].Input = -(1<<31 - 1) })
}

func TestP21_3Tick(t *testing.T) {
	w := fresh(t, 3)
	w = does(t, "nobody is wanted", w, tick(1), func(w *api.World) { w.Nodes[1].Ticks = 1 })
	w, _ = steps(t, w, link(1, 2))
	w = does(t, "a Hello", w, tick(1), func(w *api.World) {
		w.Nodes[1].Ticks = 2
		put(w, api.Packet{Kind: api.PkHello, From: 1, To: 2, Boot: 1})
	})
	// 2 does not want 1.
	does(t, "it is passed over", w, deliver(0), func(w *api.World) { w.Mail.List = nil }, ignored(2, 1, api.PkHello))
	// Three misses: the half-edge is dropped, and the Hello bears the next life.
	w, _ = steps(t, shared(t), crash(1), tick(0), tick(0), tick(0))
	does(t, "the third miss", w, tick(0), func(w *api.World) {
		w.Nodes[0].Ticks++
		w.Nodes[0].Halves, w.Nodes[0].Seen[0].Mine = nil, 1
		put(w, api.Packet{Kind: api.PkHello, From: 0, To: 1, Boot: 1, Life: 1})
	}, dropped(0, 1, api.DropMiss))
}

// several is a world of three nodes, each wanting the others, with Hellos in flight between 0 and 1 that differ in
// their lives: the first has life 1.
func several(t *testing.T, n int) api.World {
	t.Helper()
	w, _ := steps(t, fresh(t, 3), link(0, 1), link(1, 0), link(0, 2), link(2, 0), link(1, 2), link(2, 1))
	for i := range n {
		put(&w, api.Packet{Kind: api.PkHello, From: i % 2, To: 1 - i%2, Boot: 1, Life: int64(i + 1)})
	}
	for i := range w.Mail.List {
		w.Mail.List[i].Number += 5 * int64(i+1) // places are no numbers
	}
	w.Mail.Next += 500
	return w
}

// counts are N for so many packets in flight, each with the place that is meant.
func counts(n int) map[int64]int {
	m := map[int64]int{}
	for at := range n {
		for _, times := range []int64{0, 1, 2, 1 << 32, 1 << 60} {
			m[times*int64(n)+int64(at)] = at
		}
	}
	m[math.MaxInt64] = int(math.MaxInt64 % uint64(n))
	return m
}

func without(w *api.World, at int) { w.Mail.List = slices.Delete(w.Mail.List, at, at+1) }

func TestP21_3DeliverAPlace(t *testing.T) {
	for _, n := range []int{1, 2, 3, 5, 64} {
		w := several(t, n)
		for count, at := range counts(n) {
			does(t, "deliver", w, deliver(count), func(w *api.World) {
				without(w, at)
				put(w, api.Packet{Kind: api.PkWelcome, From: 1 - at%2, To: at % 2, Boot: 1, Echo: 1, EchoLife: int64(at + 1)})
			})
			does(t, "drop", w, api.Step{Kind: api.StDrop, N: count}, func(w *api.World) { without(w, at) })
			does(t, "double", w, api.Step{Kind: api.StDouble, N: count}, func(w *api.World) {
				put(w, api.Packet{Kind: api.PkHello, From: at % 2, To: 1 - at%2, Boot: 1, Life: int64(at + 1)})
			})
		}
	}
}

func TestP21_3NothingInFlight(t *testing.T) {
	down, _ := steps(t, fresh(t, 2), crash(0), crash(1))
	for _, w := range []api.World{fresh(t, 1), shared(t), down} {
		for _, kind := range []int{api.StDeliver, api.StDrop, api.StDouble} {
			for _, n := range []int64{0, 1, 7, 65536, 1 << 32, math.MaxInt64} {
				does(t, "nothing is in flight", w, api.Step{Kind: kind, N: n}, nothing)
			}
		}
		does(t, "nothing is in flight", w, flush(), nothing)
	}
}

// A packet to a node that is down is gone, which is no loss; one from such a node is delivered.
func TestP21_3DeliverAndNodesThatAreDown(t *testing.T) {
	w, _ := steps(t, several(t, 3), crash(1)) // from 0, from 1, from 0
	does(t, "to a node that is down", w, deliver(0), func(w *api.World) { without(w, 0) })
	does(t, "from a node that is down", w, deliver(1), func(w *api.World) {
		without(w, 1)
		put(w, api.Packet{Kind: api.PkWelcome, From: 0, To: 1, Boot: 1, Echo: 1, EchoLife: 2})
	})
	does(t, "all of them, and what they bring forth", w, flush(), func(w *api.World) {
		w.Mail.List = nil
		w.Mail.Next++
	})
	// Who comes up again gets what was sent ahead.
	w, _ = steps(t, w, starting(1, -1), link(1, 0))
	does(t, "to a node that is up again", w, deliver(0), func(w *api.World) {
		without(w, 0)
		put(w, api.Packet{Kind: api.PkWelcome, From: 1, To: 0, Boot: 2, Echo: 1, EchoLife: 1})
	})
}

// What is in flight between two that are severed (no run comes to that) is delivered; what it brings forth is lost.
func TestP21_3DeliverBetweenTheSevered(t *testing.T) {
	w := several(t, 2)
	w.Mail.Severed = []api.Link{{A: 0, B: 1}}
	does(t, "deliver", w, deliver(1), func(w *api.World) {
		without(w, 1)
		w.Lost = 1
	})
	does(t, "double", w, api.Step{Kind: api.StDouble}, func(w *api.World) { w.Lost = 1 })
	does(t, "drop", w, api.Step{Kind: api.StDrop}, func(w *api.World) { without(w, 0) })
}

// What is put and finds no way or no room is lost, up to the most that are counted.
func TestP21_3Lost(t *testing.T) {
	severed := several(t, 1)
	severed.Mail.Severed = []api.Link{{A: 0, B: 1}}
	last := several(t, 1)
	last.Mail.Next = lastMail
	for _, w := range []api.World{severed, last} {
		for _, c := range []struct{ was, is int64 }{{0, 1}, {1, 2}, {lastLost - 2, lastLost - 1}, {lastLost - 1, lastLost}, {lastLost, lastLost}} {
			w.Lost = c.was
			does(t, "a tick's Hello", w, tick(0), func(w *api.World) { w.Nodes[0].Ticks, w.Nodes[0].Turn, w.Lost = 1, 1, c.is })
			does(t, "a Welcome", w, deliver(0), func(w *api.World) { without(w, 0); w.Lost = c.is })
			does(t, "one that is doubled", w, api.Step{Kind: api.StDouble, N: 3}, func(w *api.World) { w.Lost = c.is })
			does(t, "in a flush", w, flush(), func(w *api.World) { without(w, 0); w.Lost = c.is })
			does(t, "one that is dropped is not counted", w, api.Step{Kind: api.StDrop, N: 3}, func(w *api.World) { without(w, 0) })
		}
	}
	// The last number is given.
	w := several(t, 0)
	w.Mail.Next = lastMail - 1
	w = does(t, "the last number", w, tick(0), func(w *api.World) {
		w.Nodes[0].Ticks, w.Nodes[0].Turn = 1, 1
		put(w, api.Packet{Kind: api.PkHello, From: 0, To: 1, Boot: 1})
	})
	does(t, "behind the last number", w, tick(0), func(w *api.World) { w.Nodes[0].Ticks, w.Nodes[0].Turn, w.Lost = 2, 0, 1 })
}

func TestP21_3AFullBag(t *testing.T) {
	w := crowded(fullBag)
	does(t, "a tick's Hello", w, tick(0), func(w *api.World) { w.Nodes[0].Ticks, w.Lost = 1, 1 })
	does(t, "one that is doubled", w, api.Step{Kind: api.StDouble, N: fullBag - 1}, func(w *api.World) { w.Lost = 1 })
	does(t, "one that is delivered makes room for another one", w, deliver(fullBag-1), func(w *api.World) {
		without(w, fullBag-1)
		put(w, api.Packet{Kind: api.PkWelcome, From: 1, To: 0, Boot: 1, Echo: 1})
	})
	does(t, "room for one", crowded(fullBag-1), api.Step{Kind: api.StDouble, N: 9}, func(w *api.World) {
		put(w, api.Packet{Kind: api.PkHello, From: 0, To: 1, Boot: 1})
	})
	does(t, "all are between the two", w, severing(1, 0), func(w *api.World) {
		w.Mail.List, w.Mail.Severed, w.Lost = nil, []api.Link{{A: 0, B: 1}}, fullBag
	})
	w.Lost = lastLost - fullBag + 1
	does(t, "one more than is counted", w, severing(1, 0), func(w *api.World) {
		w.Mail.List, w.Mail.Severed, w.Lost = nil, []api.Link{{A: 0, B: 1}}, lastLost
	})
}

// A flush ends behind so many packets: the rest stays.
func TestP21_3AFlushIsOver(t *testing.T) {
	w := crowded(fullBag) // each Hello brings forth a Welcome, which stands behind them
	got := does(t, "as many Welcomes", w, flush(), func(w *api.World) {
		w.Mail.List = nil
		for range fullBag {
			put(w, api.Packet{Kind: api.PkWelcome, From: 1, To: 0, Boot: 1, Echo: 1})
		}
	})
	if got.Mail.Next != 2*fullBag {
		t.Errorf("Next: %d", got.Mail.Next)
	}
	w = crowded(fullBag - 1) // one Welcome as well is delivered: at 0 the edge is held anew
	got, events := steps(t, w, flush())
	eventsAre(t, "the first Welcome", events, held(0, 1, 1))
	p, _ := Packet(got, fullBag-2)
	if len(got.Mail.List) != fullBag-1 || p.Kind != api.PkAsk || got.Lost != 0 {
		t.Errorf("%d in flight, %d lost, the last one %+v", len(got.Mail.List), got.Lost, p)
	}
	w = crowded(fullBag) // the ticks' Hellos find no room
	got, events = steps(t, w, round())
	eventsAre(t, "a round", events)
	if len(got.Mail.List) != fullBag || got.Lost != 2 || got.Nodes[0].Ticks != 1 || got.Nodes[1].Ticks != 1 {
		t.Errorf("%d in flight, %d lost", len(got.Mail.List), got.Lost)
	}
}

func TestP21_3Crash(t *testing.T) {
	w := base()
	for _, id := range []int{0, 1, 3} {
		got := does(t, "a crash", w, crash(id), func(w *api.World) { w.Nodes[id], w.Up[id] = api.Node{Id: id}, false })
		refuses(t, "again", got, crash(id), api.ErrDown)
	}
}

// boots is a disk with these numbers in its slots; 0: none.
func boots(first, second int64) []byte {
	b := make([]byte, 64)
	for slot, n := range []int64{first, second} {
		if n > 0 {
			copy(b[32*slot:], bootRecord(n))
		}
	}
	return b
}

// half is a disk on which the first sector alone of a number is written in a slot.
func half(disk []byte, slot int, n int64) []byte {
	b := slices.Clone(disk)
	copy(b[32*slot:], bootRecord(n)[:16])
	return b
}

func TestP21_3Restart(t *testing.T) {
	down := func(disk []byte) api.World {
		w, _ := steps(t, shared(t), crash(1))
		w.Disks[1] = disk
		return w
	}
	for _, c := range []struct {
		disk []byte
		n    int64
		slot int
	}{
		{boots(0, 0), 1, 0}, {boots(1, 0), 2, 1}, {boots(1, 2), 3, 0}, {boots(3, 2), 4, 1}, {boots(0, 9), 10, 0}, {boots(7, 7), 8, 0},
		{half(boots(3, 2), 1, 4), 4, 1}, {slices.Repeat([]byte{0xed}, 64), 1, 0}, {boots(lastBoot-1, 5), lastBoot, 1},
	} {
		w := down(c.disk)
		written := slices.Clone(c.disk)
		copy(written[32*c.slot:], bootRecord(c.n))
		for _, cut := range []int64{-1, -2, math.MinInt64, 2, 3, 4, 1 << 32, math.MaxInt64} {
			does(t, "a restart", w, starting(1, cut), func(w *api.World) {
				w.Nodes[1], w.Up[1], w.Disks[1] = api.Node{Id: 1, Boot: c.n}, true, written
			})
		}
		refuses(t, "the power goes ahead of the first write", w, starting(1, 0), api.ErrDead)
		got, o := check(t, w, starting(1, 1))
		want := deep(w)
		want.Disks[1] = half(c.disk, c.slot, c.n)
		if o.Err != api.ErrDead || len(o.Events) > 0 || !alike(got, want) {
			t.Errorf("the power goes between the writes: %+v, %+v", o, got)
		}
		does(t, "a restart behind that", got, starting(1, -1), func(w *api.World) {
			w.Nodes[1], w.Up[1], w.Disks[1] = api.Node{Id: 1, Boot: c.n}, true, written
		})
	}
	for _, disk := range [][]byte{boots(lastBoot, 0), boots(5, lastBoot), boots(lastBoot, lastBoot)} {
		for _, cut := range []int64{-1, 0, 1, 2} {
			refuses(t, "the last number was used", down(disk), starting(1, cut), api.ErrLast)
		}
	}
	for _, cut := range []int64{-1, 0, 1} {
		refuses(t, "it is up", shared(t), starting(1, cut), api.ErrUp)
		refuses(t, "it is up, and the last number was used", worn(t), starting(0, cut), api.ErrUp)
	}
}

// worn is a world of one node that is up, and has used the last boot number.
func worn(t *testing.T) api.World {
	t.Helper()
	w := fresh(t, 1)
	w.Nodes[0].Boot, w.Disks[0] = lastBoot, boots(lastBoot, lastBoot-1)
	return w
}

// The ninth example of the whole: a restart that is cut, and what is shown behind it.
func TestNinthExampleOfTheWhole(t *testing.T) {
	w := fresh(t, 1)
	refuses(t, "restart of one that is up", w, starting(0, 0), api.ErrUp)
	w, _ = steps(t, w, crash(0))
	refuses(t, "tick of one that is down", w, tick(0), api.ErrDown)
	w, o := check(t, w, starting(0, 1))
	if o.Err != api.ErrDead {
		t.Errorf("the power goes between the two writes: %v", o.Err)
	}
	w, _ = steps(t, w, starting(0, -1))
	if !alike(w.Nodes, []api.Node{{Id: 0, Boot: 2}}) || len(w.Mail.List) != 0 || w.Lost != 0 {
		t.Errorf("%+v", w)
	}
}

// ring is a world of three nodes that each want both others.
func ring(t *testing.T) api.World {
	t.Helper()
	w, _ := steps(t, fresh(t, 3), link(0, 1), link(0, 2), link(1, 0), link(1, 2), link(2, 0), link(2, 1))
	return w
}

// Hellos of 0 to 1, of 1 to 0, of 2 to 0, each answered by a Welcome; then the edges are held, in the order in which
// these come, at both ends.
func TestP21_3Round(t *testing.T) {
	w, events := steps(t, ring(t), round())
	eventsAre(t, "the first round", events, held(0, 1, 1), held(1, 0, 1), held(2, 0, 1), held(0, 2, 1))
	w, events = steps(t, w, round())
	eventsAre(t, "the second round", events, held(1, 2, 1), held(2, 1, 1))
	for id, st := range w.Nodes {
		if len(st.Halves) != 2 || st.Ticks != 2 {
			t.Errorf("%d behind two rounds: %+v", id, st)
		}
	}
	if len(w.Mail.List) != 0 || w.Lost != 0 {
		t.Errorf("behind two rounds: %+v", w.Mail)
	}
}

func TestP21_3RoundWithSomeDown(t *testing.T) {
	w, _ := steps(t, ring(t), crash(1))
	w, events := steps(t, w, round())
	eventsAre(t, "0 has said Hello to 1, 2 to 0", events, held(2, 0, 1), held(0, 2, 1))
	if w.Nodes[0].Ticks != 1 || w.Nodes[2].Ticks != 1 || !alike(w.Nodes[1], api.Node{Id: 1}) || w.Lost != 0 || len(w.Mail.List) != 0 {
		t.Errorf("%+v", w)
	}
	all, _ := steps(t, w, crash(0), crash(2))
	does(t, "all are down", all, round(), nothing)
	// What was in flight ahead of the round is delivered as well, ahead of what the ticks put.
	w, _ = steps(t, ring(t), tick(2), crash(1))
	w, events = steps(t, w, round())
	eventsAre(t, "a Hello from 2 is in flight", events, held(2, 0, 1), held(0, 2, 1))
	if w.Nodes[2].Turn != 0 || w.Nodes[2].Ticks != 2 {
		t.Errorf("%+v", w.Nodes[2])
	}
}

// What the ticks of a round tell, in rising order, stands ahead of what the flush tells, also of packets that were in
// flight ahead of the round.
func TestP21_3EventsOfARound(t *testing.T) {
	w, _ := steps(t, fresh(t, 3), link(0, 1), link(0, 2), link(1, 0), link(1, 2), link(2, 1), link(2, 0))
	w, _ = steps(t, w, round(), round(), round(), round(), crash(1))
	w, events := steps(t, w, round(), round(), round(), round(), round(), round())
	eventsAre(t, "1 does not answer", events)
	w, _ = steps(t, w, creating(0, "m", api.KMean))
	w, events = steps(t, w, round())
	eventsAre(t, "1 is dropped", events, dropped(0, 1, api.DropMiss), dropped(2, 1, api.DropMiss), learned(2, "m", 1))
	if w.Lost != 0 || len(w.Mail.List) != 0 {
		t.Errorf("%+v", w.Mail)
	}
}

// A packet goes between two ticks of one round to nobody: the ticks come first, all of them.
func TestP21_3RoundPutsAheadOfTheFlush(t *testing.T) {
	w, _ := steps(t, shared(t), setting(0, "m", 30))
	before := w
	w, events := steps(t, w, round())
	// Both ask with what they have: each balances on what the other one had told.
	apart, l := steps(t, before, tick(0), tick(1), flush())
	if !alike(w, apart) || !slices.Equal(events, l) {
		t.Errorf("a round: %+v, two ticks and a flush: %+v", events, l)
	}
	other, _ := steps(t, before, tick(0), flush(), tick(1), flush())
	if alike(w, other) {
		t.Error("a round is as if each tick were followed by a flush")
	}
}

func TestP21_3Sever(t *testing.T) {
	w := several(t, 4) // two each way between 0 and 1
	put(&w, api.Packet{Kind: api.PkHello, From: 2, To: 0, Boot: 1}, api.Packet{Kind: api.PkHello, From: 1, To: 2, Boot: 1})
	for _, x := range []api.Step{severing(0, 1), severing(1, 0)} {
		for _, c := range []struct{ was, is int64 }{{0, 4}, {7, 11}, {lastLost - 4, lastLost}, {lastLost - 3, lastLost}, {lastLost, lastLost}} {
			w.Lost = c.was
			got := does(t, "packets both ways", w, x, func(w *api.World) {
				w.Mail.List, w.Mail.Severed, w.Lost = w.Mail.List[4:], []api.Link{{A: 0, B: 1}}, c.is
			})
			does(t, "again", got, x, nothing)
			does(t, "the place of a packet is another one now", got, deliver(0), func(w *api.World) {
				without(w, 0)
				put(w, api.Packet{Kind: api.PkWelcome, From: 0, To: 2, Boot: 1, Echo: 1})
			})
		}
	}
	w.Lost = 0
	got := does(t, "a packet one way", w, severing(0, 2), func(w *api.World) { without(w, 4); w.Mail.Severed, w.Lost = []api.Link{{A: 0, B: 2}}, 1 })
	got = does(t, "and another pair", got, severing(2, 1), func(w *api.World) {
		without(w, 4)
		w.Mail.Severed, w.Lost = []api.Link{{A: 0, B: 2}, {A: 1, B: 2}}, 2
	})
	does(t, "pairs rise", got, severing(1, 0), func(w *api.World) {
		w.Mail.List, w.Mail.Severed, w.Lost = nil, []api.Link{{A: 0, B: 1}, {A: 0, B: 2}, {A: 1, B: 2}}, 6
	})
	does(t, "nothing is in flight", fresh(t, 2), severing(1, 0), func(w *api.World) { w.Mail.Severed = []api.Link{{A: 0, B: 1}} })
	for id := range 3 {
		refuses(t, "a node and itself", w, severing(id, id), api.ErrSelf)
		refuses(t, "a node and itself", w, api.Step{Kind: api.StMend, A: id, B: id}, api.ErrSelf)
	}
	down, _ := steps(t, w, crash(0), crash(1))
	refuses(t, "a node and itself, which is down", down, severing(0, 0), api.ErrSelf)
	does(t, "both are down", down, severing(0, 1), func(w *api.World) {
		w.Mail.List, w.Mail.Severed, w.Lost = w.Mail.List[4:], []api.Link{{A: 0, B: 1}}, 4
	})
}

func TestP21_3Mend(t *testing.T) {
	mend := func(a, b int) api.Step { return api.Step{Kind: api.StMend, A: a, B: b} }
	w := base() // 1 and 2, 1 and 3 are severed; 2 is down
	for _, x := range []api.Step{mend(1, 2), mend(2, 1)} {
		got := does(t, "severed", w, x, func(w *api.World) { w.Mail.Severed = []api.Link{{A: 1, B: 3}} })
		does(t, "again", got, x, nothing)
		got, _ = steps(t, got, tick(1), tick(1)) // one of these says Hello to 2
		if n := len(got.Mail.List); n != 4 || got.Lost != w.Lost {
			t.Errorf("behind %+v %d are in flight, %d lost", x, n, got.Lost)
		}
	}
	for _, x := range []api.Step{mend(0, 1), mend(1, 0), mend(0, 3), mend(3, 2)} {
		does(t, "not severed", w, x, nothing)
	}
	none := fresh(t, 2)
	does(t, "nobody is severed", none, mend(0, 1), nothing)
}

// What is severed loses what is put, until it is mended.
func TestP21_3SeveredAndMended(t *testing.T) {
	w, _ := pair(t)
	w, events := steps(t, w, severing(1, 0), tick(0), tick(0), tick(0), tick(0))
	eventsAre(t, "nobody answers", events, dropped(0, 1, api.DropMiss))
	if w.Lost != 4 || len(w.Mail.List) != 0 || w.Mail.Next != 6 {
		t.Errorf("behind four ticks: %+v, %d lost", w.Mail, w.Lost)
	}
	w, events = steps(t, w, api.Step{Kind: api.StMend, A: 0, B: 1}, tick(0), flush())
	eventsAre(t, "and again", events, held(0, 1, 1), held(1, 0, 1))
	if w.Lost != 4 {
		t.Errorf("%d are lost", w.Lost)
	}
}

// The bodies are Encode's bytes, also of what is doubled.
func TestP21_3Bodies(t *testing.T) {
	w, _ := steps(t, shared(t), tick(0), api.Step{Kind: api.StDouble})
	want, packets, _ := node.Tick(shared(t).Nodes[0])
	if !alike(w.Nodes[0], want) || len(w.Mail.List) != 2 {
		t.Fatalf("%+v", w)
	}
	for i, d := range w.Mail.List {
		if d.Body != string(wire.Encode(packets[0])) || d.From != 0 || d.To != 1 || d.Number != w.Mail.Next-1+int64(i) {
			t.Errorf("%+v", d)
		}
	}
}

// Whom it asks comes first, then whom it has to tell: a step's events and packets in the order in which they come.
func TestP21_3OrderOfOneStep(t *testing.T) {
	w, _ := steps(t, ring(t), round(), round())
	w, events := steps(t, w, creating(1, "m", api.KMean))
	eventsAre(t, "create", events, learned(1, "m", 1))
	var to []int
	for _, d := range w.Mail.List {
		to = append(to, d.To)
	}
	if !slices.Equal(to, []int{0, 2}) {
		t.Errorf("it asks %v", to)
	}
	_, events = steps(t, w, flush())
	eventsAre(t, "the flush", events, learned(0, "m", 1), learned(2, "m", 1))
	_, events = steps(t, w, deliver(1), flush())
	eventsAre(t, "the other one first", events, learned(2, "m", 1), learned(0, "m", 1))
}
