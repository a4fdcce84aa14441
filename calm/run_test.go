package calm

import (
	"math"
	"slices"
	"testing"

	"eddy/api"
	"eddy/world"
)

func beatOf(node int, events ...api.Told) api.Beat { return api.Beat{Node: node, Events: events} }

func held2(node, peer int, boot int64) api.Told {
	return told(node, api.Event{Kind: api.EvHeld, Peer: peer, Num: boot})
}

func TestP24_2Serial(t *testing.T) {
	w := run(t, 3, append(fed(10, 0), crash(2))...)
	a := balanced(1, 0, "m", 5)
	for _, c := range []struct {
		what  string
		order []int
		want  []api.Beat
	}{
		{"an empty order", nil, nil},
		{"one", []int{0}, []api.Beat{beatOf(0, a)}},
		{"the other one", []int{1}, []api.Beat{beatOf(1, balanced(0, 1, "m", -5))}},
		{"one several times", []int{0, 0, 0}, []api.Beat{beatOf(0, a), beatOf(0), beatOf(0)}},
		{"both", []int{0, 1, 0}, []api.Beat{beatOf(0, a), beatOf(1), beatOf(0)}},
		{"no node", []int{3}, []api.Beat{{Node: 3, Err: api.ErrNode}}},
		{"numbers far off", []int{16, math.MaxInt, 1 << 32}, []api.Beat{{Node: 16, Err: api.ErrNode}, {Node: math.MaxInt, Err: api.ErrNode}, {Node: 1 << 32, Err: api.ErrNode}}},
		{"numbers below 0", []int{-1, math.MinInt}, []api.Beat{{Node: -1, Err: api.ErrNode}, {Node: math.MinInt, Err: api.ErrNode}}},
		{"one that is down", []int{2}, []api.Beat{{Node: 2, Err: api.ErrDown}}},
		{"those behind an error", []int{3, 2, 0, -1, 1}, []api.Beat{{Node: 3, Err: api.ErrNode}, {Node: 2, Err: api.ErrDown}, beatOf(0, a), {Node: -1, Err: api.ErrNode}, beatOf(1)}},
	} {
		x, l := Serial(w, c.order)
		is(t, w, c.what, l, c.want)
		ticks := []int64{w.Nodes[0].Ticks, w.Nodes[1].Ticks, 0}
		for _, v := range c.order {
			if v == 0 || v == 1 {
				ticks[v]++
			}
		}
		is(t, w, c.what+": ticks", []int64{x.Nodes[0].Ticks, x.Nodes[1].Ticks, x.Nodes[2].Ticks}, ticks)
		y, _ := saySerial(w, c.order)
		is(t, w, c.what+": the world", x, y)
	}
}

// Where the tick has an error, nothing is flushed; else all that is in flight is, whoever has sent it.
func TestP24_2WhatIsInFlight(t *testing.T) {
	w := run(t, 3, link(0, 1), link(1, 0), tick(0), crash(2))
	for _, v := range []int{-1, 2, 3} {
		x, l := Serial(w, []int{v})
		is(t, w, "the world behind an error", x, w)
		is(t, w, "its events", l[0].Events, []api.Told{})
	}
	x, l := Serial(w, []int{3, 1})
	is(t, w, "what is told then", l, []api.Beat{{Node: 3, Err: api.ErrNode}, beatOf(1, held2(0, 1, 1), held2(1, 0, 1))})
	is(t, x, "in flight", len(x.Mail.List), 0)
	w = run(t, 2, append(first(), severing(0, 1))...)
	x, l = Serial(w, []int{0, 1})
	is(t, w, "between severed ones", l, []api.Beat{beatOf(0), beatOf(1)})
	is(t, w, "lost", x.Lost, int64(2))
}

// The events of the tick stand ahead of those of its flush.
func TestP24_2EventsOfBoth(t *testing.T) {
	w := run(t, 2, append(fed(10, 0), tick(0), dropping(0), tick(0), dropping(0), tick(0), dropping(0))...)
	_, l := Serial(w, []int{1, 0})
	is(t, w, "it is heard of ahead", l[1].Events, []api.Told{})
	x, l := Serial(w, []int{0, 0})
	is(t, w, "a drop, and a new edge", l, []api.Beat{beatOf(0, told(0, api.Event{Kind: api.EvDropped, Peer: 1, Num: api.DropMiss}),
		held2(0, 1, 1), held2(1, 0, 1), balanced(1, 0, "m", 5)), beatOf(0)})
	is(t, x, "Calm", Calm(l), false)
	w = high(most, 3)
	_, l = Serial(w, []int{1, 0})
	is(t, w, "a rest out of its range", l, []api.Beat{beatOf(1, refused(1, 0)), beatOf(0, refused(0, 1))})
}

func refused(node, peer int) api.Told {
	return told(node, api.Event{Kind: api.EvRange, Peer: peer, Name: "m"})
}

// high is a world in which the rests of the first two nodes towards each other are 7 above their inputs, by what has come
// from the other two.
func high(x, y int64) api.World {
	w := plain(4)
	join(&w, 0, 1)
	join(&w, 0, 2)
	join(&w, 1, 3)
	all(&w, of("m", api.KMean), x, x, y, y)
	flow(&w, 0, 2, "m", -7)
	flow(&w, 1, 3, "m", -7)
	return w
}

// Numbers behind the 4096th play no part.
func TestP24_2LongOrders(t *testing.T) {
	w := run(t, 2)
	for _, n := range []int{4095, 4096, 4097, 9000} {
		order := make([]int, n)
		order[n-1] = 1
		x, l := Serial(w, order)
		want := []int64{4096, 0}
		if n <= 4096 {
			want = []int64{int64(n - 1), 1}
		}
		is(t, x, "how often they have ticked", []int64{x.Nodes[0].Ticks, x.Nodes[1].Ticks}, want)
		is(t, x, "beats", len(l), min(n, 4096))
		for i, b := range l {
			is(t, x, "a beat", b, beatOf(order[i]))
		}
	}
	_, l := Serial(w, append(make([]int, 4095), 9, 8))
	is(t, w, "the last beat", l[4095:], []api.Beat{{Node: 9, Err: api.ErrNode}})
}

// fixed is a world that a round changes, and tells of, for ever: its two nodes cannot balance.
func fixed() api.World {
	w := plain(2)
	join(&w, 0, 1)
	all(&w, of("m", api.KMean), most, 10)
	flow(&w, 0, 1, "m", -10)
	return w
}

func TestP24_4Rounds(t *testing.T) {
	w := fixed()
	for _, n := range []int{math.MinInt, -1, 0, 1, 2, 7, 999, 1000, 1001, 5000, math.MaxInt} {
		x, events := Rounds(w, n)
		done := max(0, min(n, 1000))
		is(t, w, "ticks", []int64{x.Nodes[0].Ticks, x.Nodes[1].Ticks}, []int64{int64(done), int64(done)})
		is(t, w, "in flight", len(x.Mail.List), 0)
		is(t, w, "events", len(events), 2*done)
		for i, e := range events {
			is(t, w, "an event", e, refused(1-i%2, i%2))
		}
		if done == 0 {
			is(t, w, "the world behind none", x, w)
		}
	}
}

// One round after the other: what is told stands in its order.
func TestP24_4EventsOfRounds(t *testing.T) {
	w := run(t, 2, append(fed(10, 0), crash(1))...)
	x, events := Rounds(w, 3)
	is(t, w, "the first three rounds", events, []api.Told{})
	x, events = Rounds(w, 4)
	is(t, w, "the fourth one", events, []api.Told{told(0, api.Event{Kind: api.EvDropped, Peer: 1, Num: api.DropMiss})})
	is(t, x, "half-edges", len(x.Nodes[0].Halves), 0)
	w = run(t, 2, append(first()[:2], creating(0, "m", api.KMean), setting(0, "m", 10))...)
	_, events = Rounds(w, 2)
	learned := told(1, api.Event{Kind: api.EvLearned, Name: "m", Num: 1})
	_, o := world.Do(w, round())
	is(t, w, "a first round", events, o.Events)
	if !slices.Contains(events, learned) || !slices.Contains(events, held2(0, 1, 1)) || slices.Index(events, held2(0, 1, 1)) > slices.Index(events, learned) {
		t.Errorf("%+v", events)
	}
	w = run(t, 2, link(0, 1), link(1, 0), tick(0))
	x, events = Rounds(w, 0)
	is(t, w, "what is in flight stays, if there is no round", ended{x, events, nil}, ended{w, []api.Told{}, nil})
}

// two is two nodes that hold their edge, with inputs that are their estimates.
func two(x, y int64) api.World {
	w := plain(2)
	join(&w, 0, 1)
	all(&w, of("m", api.KMean), x, y)
	return w
}

func TestP24_5Differences(t *testing.T) {
	for _, x := range []int64{0, 1, -1, 5, -7, most - 3, 3 - most} {
		for by := int64(-3); by <= 3; by++ {
			w := two(x, x+by)
			is(t, w, "Settled", Settled(w, "m"), -2 < by && by < 2)
		}
	}
	for _, c := range [][2]int64{{most, -most}, {-most, most}, {0, most}, {-most, 0}, {1 << 30, -1 << 30}} {
		w := two(c[0], c[1])
		is(t, w, "Settled of what is far apart", Settled(w, "m"), false)
	}
	w := two(most, -most)
	for _, name := range []string{"", "a", "n", "M", "mm", "m ", "\xff"} {
		is(t, w, "Settled of another name", Settled(w, name), true)
	}
	w = two(10, 0)
	flow(&w, 0, 1, "m", 5)
	is(t, w, "Settled by what went over", Settled(w, "m"), true)
	flow(&w, 0, 1, "m", -5)
	is(t, w, "and by what went the wrong way", Settled(w, "m"), false)
}

func TestP24_5Edges(t *testing.T) {
	row := func() api.World {
		w := plain(4)
		join(&w, 0, 1)
		join(&w, 1, 2)
		join(&w, 2, 3)
		all(&w, of("m", api.KMean), 1, 2, 3, 4)
		return w
	}
	for _, c := range []struct {
		what string
		do   func(w *api.World)
		want bool
	}{
		{"those that are not next to each other may differ by more", func(w *api.World) {}, true},
		{"the first edge", func(w *api.World) { w.Nodes[0].Chans[0].Input = 0 }, false},
		{"the last edge", func(w *api.World) { w.Nodes[3].Chans[0].Input = 5 }, false},
		{"the edge between", func(w *api.World) { all(w, of("n", api.KMean), 1, 2, 4, 5); w.Nodes[1].Chans[0].Input = 1 }, false},
		{"another channel", func(w *api.World) { all(w, of("n", api.KMean), 1, 9, 20, 5) }, true},
		{"one end has dropped it", func(w *api.World) { w.Nodes[3].Chans[0].Input = 9; w.Nodes[3].Halves = nil }, true},
		{"one end names an earlier boot number", func(w *api.World) { w.Nodes[3].Chans[0].Input = 9; at(w, 3, 2).Boot-- }, true},
		{"one end names an earlier life", func(w *api.World) { w.Nodes[0].Chans[0].Input = 9; at(w, 1, 0).Life-- }, true},
		{"one end is down", func(w *api.World) { w.Nodes[1].Chans[0].Input = 9; down(w, 0); down(w, 2) }, true},
		{"one end has no instance", func(w *api.World) { w.Nodes[2].Chans[0].Input = 9; lose(w, 3, "m"); lose(w, 1, "m") }, true},
		{"one end has a record that is not alive", func(w *api.World) {
			w.Nodes[2].Chans[0].Input = 9
			*record(w, 3, "m"), *record(w, 1, "m") = gone(), gone()
			w.Nodes[1].Chans[0].Input, w.Nodes[3].Chans[0].Input = 0, 0
			w.Nodes[1].Chans[0].Has, w.Nodes[3].Chans[0].Has = false, false
		}, true},
		{"one end has one without flows", func(w *api.World) { lose(w, 0, "m"); have(w, 0, api.State{Chan: of("m", api.KExt)}) }, true},
		{"both ends have other instances", func(w *api.World) { record(w, 0, "m").Epoch++ }, true},
		{"other instances that differ", func(w *api.World) { record(w, 0, "m").Maker++; w.Nodes[0].Chans[0].Input = 9 }, false},
		{"an end without an input", func(w *api.World) { w.Nodes[0].Chans[0] = api.State{Chan: of("m", api.KMean)} }, false},
		{"an end without an input, near to 0", func(w *api.World) {
			w.Nodes[0].Chans[0] = api.State{Chan: of("m", api.KMean)}
			w.Nodes[1].Chans[0].Input = 1
			w.Nodes[2].Chans[0].Input = 2
			w.Nodes[3].Chans[0].Input = 2
		}, true},
		{"an edge that is open", func(w *api.World) { write(w, 0, 1, "m", api.Reg{Ver: 9}) }, true},
	} {
		w := changed(t, row(), c.what, c.do)
		is(t, w, c.what, Settled(w, "m"), c.want)
		is(t, w, c.what+", by the words", saySettled(w, "m"), c.want)
	}
	is(t, plain(3), "no edge", Settled(plain(3), "m"), true)
	alone := plain(2)
	all(&alone, of("m", api.KMean), 0, 99)
	is(t, alone, "nodes without an edge", Settled(alone, "m"), true)
}

// gone is a record that was taken away.
func gone() api.Chan {
	c := of("m", api.KMean)
	c.Epoch, c.Alive = 4, false
	return c
}

// An estimate out of its range is seen as 0: it is not settled, whatever the other end has.
func TestP24_5OutOfRange(t *testing.T) {
	for _, c := range []struct {
		what          string
		x, y, flowing int64
		want          bool
	}{
		{"the lower end, above", most, 10, -10, false},
		{"the lower end, below", -most, -10, 10, false},
		{"the higher end, above", 10, most, 10, false},
		{"the higher end, below", -10, -most, -10, false},
		{"both", most, -most, -1, false},
		{"the lower end, by one", most, 1, -1, false},
		{"one at the last number", most - 1, most, -1, true},
		{"both at 0", 10, -10, 10, true},
		{"both nearly at the end", most, most - 2, 1, true},
		{"one at the last number, and two from it", most - 1, most - 1, -1, false},
		{"one at the first number", -most + 1, -most, 1, true},
	} {
		w := two(c.x, c.y)
		flow(&w, 0, 1, "m", c.flowing)
		is(t, w, c.what, Settled(w, "m"), c.want)
		is(t, w, c.what+", by the words", saySettled(w, "m"), c.want)
	}
}

// line4 is a row of nodes that hold their edges, with inputs far apart.
func line4(t *testing.T) api.World {
	var l []api.Step
	for a := range 3 {
		l = append(l, link(a, a+1), link(a+1, a))
	}
	l = append(l, round(), round(), creating(0, "m", api.KMean), flush(), setting(0, "m", 1000), setting(3, "m", -77))
	return run(t, 4, l...)
}

func TestP24_6Settle(t *testing.T) {
	w := line4(t)
	x, n, so := Settle(w, "m", 1000)
	if !so || n < 3 || !over(x, "m") {
		t.Fatalf("%d, %t: %+v", n, so, x)
	}
	for _, limit := range []int{math.MinInt, -1, 0, 1, n - 1, n, n + 1, n + 100, 1001, math.MaxInt} {
		got, count, is2 := Settle(w, "m", limit)
		done := max(0, min(limit, n))
		want, _ := sayRounds(w, done)
		is(t, w, "Settle", ended{got, count, is2}, ended{want, done, done == n})
		if done < n && over(want, "m") {
			t.Errorf("behind %d rounds already", done)
		}
	}
	for _, limit := range []int{math.MinInt, -1, 0, 1, 1000, 1001} {
		got, count, so := Settle(x, "m", limit)
		is(t, w, "Settle of what is so at once", ended{got, count, so}, ended{x, 0, true})
		got, count, so = Settle(w, "n", limit)
		is(t, w, "Settle of a name that nobody has", ended{got, count, so}, ended{w, 0, true})
	}
}

// What is settled and still open needs a round.
func TestP24_6StillOpen(t *testing.T) {
	w := two(5, 5)
	write(&w, 1, 0, "m", api.Reg{Ver: 2, Writer: 1})
	is(t, w, "Settled", Settled(w, "m"), true)
	is(t, w, "fit", world.Fit(w), true)
	for _, limit := range []int{-1, 0} {
		x, n, so := Settle(w, "m", limit)
		is(t, w, "without a round", ended{x, n, so}, ended{w, 0, false})
	}
	want, _ := sayRounds(w, 1)
	for _, limit := range []int{1, 2, 1000} {
		x, n, so := Settle(w, "m", limit)
		is(t, w, "with rounds", ended{x, n, so}, ended{want, 1, true})
	}
	w = two(5, 5)
	all(&w, of("n", api.KMean), 0, 9)
	write(&w, 1, 0, "n", api.Reg{Ver: 2, Writer: 1})
	x, n, so := Settle(w, "m", 9)
	is(t, w, "another channel that is open", ended{x, n, so}, ended{w, 0, true})
}

// One that never settles: 1000 rounds are the most.
func TestP24_6Never(t *testing.T) {
	w := fixed()
	want, _ := sayRounds(w, 1000)
	for _, limit := range []int{0, 1, 999, 1000, 1001, math.MaxInt} {
		x, n, so := Settle(w, "m", limit)
		is(t, w, "how many", ended{nil, n, so}, ended{nil, min(limit, 1000), false})
		is(t, w, "ticks", x.Nodes[1].Ticks, int64(min(limit, 1000)))
		if limit >= 1000 {
			is(t, w, "the world", x, want)
		}
	}
}

// It is left at the first round behind which all is so, though it may be otherwise again later.
func TestP24_6TheFirstTime(t *testing.T) {
	w := run(t, 2, fed(10, 0)...)
	w, _ = world.Do(w, crash(1))
	x, n, so := Settle(w, "m", 9)
	is(t, w, "an end is down", ended{x, n, so}, ended{w, 0, true})
	w, _ = world.Do(w, starting(1))
	w, _ = world.Do(w, link(1, 0))
	x, n, so = Settle(w, "m", 9)
	is(t, w, "and up again", ended{x, n, so}, ended{w, 0, true})
}
