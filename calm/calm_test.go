package calm

import (
	"slices"
	"testing"

	"eddy/api"
	"eddy/view"
	"eddy/world"
)

// first are the steps of chapter 21's first example, with its flush.
func first() []api.Step { return []api.Step{link(0, 1), link(1, 0), tick(0), flush()} }

// fed are those, and then a channel with unlike inputs.
func fed(x, y int64) []api.Step {
	return append(first(), creating(0, "m", api.KMean), flush(), setting(0, "m", x), setting(1, "m", y))
}

func severing(a, b int) api.Step { return api.Step{Kind: api.StSever, A: a, B: b} }
func mending(a, b int) api.Step  { return api.Step{Kind: api.StMend, A: a, B: b} }
func dropping(n int64) api.Step  { return api.Step{Kind: api.StDrop, N: n} }

func told(node int, e api.Event) api.Told { return api.Told{Node: node, Event: e} }

func balanced(node, peer int, name string, x int64) api.Told {
	return told(node, api.Event{Kind: api.EvBalanced, Peer: peer, Name: name, Num: x})
}

func TestExample1(t *testing.T) {
	w := run(t, 2, first()...)
	is(t, w, "Ready behind the first example", Ready(w), true)
	w = run(t, 2, fed(10, 0)...)
	is(t, w, "Ready with inputs", Ready(w), true)
	is(t, w, "Settled ahead", Settled(w, "m"), false)
	w, l := Serial(w, []int{0})
	is(t, w, "Serial", l, []api.Beat{{Node: 0, Events: []api.Told{balanced(1, 0, "m", 5)}}})
	is(t, w, "Calm", Calm(l), true)
	is(t, w, "Settled behind", Settled(w, "m"), true)
	x, n, so := Settle(w, "m", 9)
	is(t, w, "Settle", ended{x, n, so}, ended{w, 0, true})
}

func TestExample2(t *testing.T) {
	w := run(t, 2, link(0, 1), link(1, 0), tick(0))
	is(t, w, "Quiet", Quiet(w), false)
	x, l := Serial(w, []int{2})
	is(t, w, "Serial of no node", ended{x, l, nil}, ended{w, []api.Beat{{Node: 2, Err: api.ErrNode}}, nil})
	x, events := Rounds(w, -1)
	is(t, w, "Rounds", ended{x, events, nil}, ended{w, []api.Told{}, nil})
}

// The numbers that the words name are those of the document.
func TestLimits(t *testing.T) {
	if api.MaxFlow != most || api.DropRounds != 30 || api.MissLimit != 3 || mostBeats != 4096 || mostRounds != 1000 {
		t.Error("the limits are others than the document's")
	}
	if !slices.Equal([]int{api.EvHeld, api.EvDropped, api.EvBalanced, api.EvRange, api.EvLearned, api.EvIgnored}, []int{1, 2, 3, 4, 5, 6}) {
		t.Error("the events are others than the document's")
	}
	if !slices.Equal([]api.Errno{api.ErrNode, api.ErrDown}, []api.Errno{40, 51}) {
		t.Error("the errors are others than the document's")
	}
}

// All answers, in worlds made by hand and in those of runs, by the words.
func TestByTheWords(t *testing.T) {
	d, sorts := newDice(1), map[string]int{}
	for i := range 1000 {
		w := d.one()
		switch i % 4 {
		case 0, 1:
			w = d.rested()
		case 2:
			w, _ = world.Do(w, round())
			w = d.stamped(w)
		}
		check(t, d, w, sorts)
	}
	enough(t, sorts, 30, "quiet", "not quiet", "ready", "quiet, not ready", "calm", "not calm", "an error", "no beats", "settled", "not settled", "settled, still open", "settles at once", "settles", "settles not")
}

// check holds all answers of a world against the words.
func check(t *testing.T, d dice, w api.World, sorts map[string]int) {
	t.Helper()
	is(t, w, "Quiet", Quiet(w), sayQuiet(w))
	is(t, w, "Ready", Ready(w), sayReady(w))
	order, n := d.order(len(w.Nodes)), d.Intn(5)-1
	x, l := Serial(w, order)
	y, k := saySerial(w, order)
	is(t, w, "Serial", ended{x, l, nil}, ended{y, k, nil})
	is(t, w, "Calm", Calm(l), sayCalm(k))
	z, events := Rounds(w, n)
	y, k2 := sayRounds(w, n)
	is(t, w, "Rounds", ended{z, events, nil}, ended{y, k2, nil})
	for _, name := range append(names3(), "b", "") {
		for _, w := range []api.World{w, x, z} {
			is(t, w, "Settled of "+name, Settled(w, name), saySettled(w, name))
			sorts[word(Settled(w, name), "settled", "not settled")]++
			sorts[word(Settled(w, name) && !over(w, name), "settled, still open", "")]++
		}
	}
	name, limit := pick(d, names3()), pick(d, []int{-1, 0, 1, 2, 3, 5, 9})
	x, rounds, so := Settle(w, name, limit)
	y, want, also := saySettle(w, name, limit)
	is(t, w, "Settle of "+name, ended{x, rounds, so}, ended{y, want, also})
	sorts[word(Quiet(w), "quiet", "not quiet")]++
	sorts[word(Ready(w), "ready", word(Quiet(w), "quiet, not ready", ""))]++
	sorts[word(Calm(l), "calm", "not calm")]++
	sorts[word(len(l) == 0, "no beats", "")]++
	sorts[word(slices.ContainsFunc(l, func(b api.Beat) bool { return b.Err != api.OK }), "an error", "")]++
	sorts[word(so, word(rounds == 0, "settles at once", "settles"), "settles not")]++
}

// word is one of two words.
func word(so bool, one, other string) string {
	if so {
		return one
	}
	return other
}

func TestP24_1Quiet(t *testing.T) {
	hello := []api.Step{link(0, 1), link(1, 0), tick(0)}
	for _, c := range []struct {
		what string
		w    api.World
		want bool
	}{
		{"one node", run(t, 1), true},
		{"many nodes", run(t, 16), true},
		{"a packet in flight", run(t, 2, hello...), false},
		{"two packets in flight", run(t, 2, append(hello, tick(1))...), false},
		{"a packet to a node that is down", run(t, 2, append(hello, crash(1))...), false},
		{"a packet that was dropped", run(t, 2, append(hello, dropping(0))...), true},
		{"all is heard", run(t, 2, append(hello, flush())...), true},
		{"somebody severed", run(t, 2, severing(0, 1)), false},
		{"somebody severed, and all is heard", run(t, 3, append(hello, flush(), severing(1, 2))...), false},
		{"a severed pair that is mended", run(t, 2, severing(0, 1), mending(1, 0)), true},
		{"one of two severed pairs is mended", run(t, 3, severing(0, 1), severing(1, 2), mending(0, 1)), false},
		{"a packet lost between severed ones", run(t, 2, append([]api.Step{severing(0, 1)}, append(hello, mending(0, 1))...)...), true},
		{"both", run(t, 3, append(hello, severing(1, 2))...), false},
		{"all are down", run(t, 2, crash(0), crash(1)), true},
	} {
		is(t, c.w, c.what, Quiet(c.w), c.want)
	}
}

// named lets all three nodes of a row have three channels, agreed on both its edges.
func named() api.World {
	w := plain(3)
	join(&w, 0, 1)
	join(&w, 1, 2)
	for _, name := range names3() {
		all(&w, of(name, api.KMean), 5, 5, 5)
		flow(&w, 0, 1, name, 3)
		flow(&w, 1, 2, name, 3)
	}
	return w
}

func TestP24_1Ready(t *testing.T) {
	w := named()
	is(t, w, "all is agreed", Ready(w), true)
	for _, c := range []struct {
		what string
		do   func(w *api.World)
		want bool
	}{
		{"nothing is changed", func(w *api.World) {}, true},
		{"a packet in flight", func(w *api.World) { *w, _ = world.Do(*w, tick(1)) }, false},
		{"somebody severed", func(w *api.World) { *w, _ = world.Do(*w, severing(0, 2)) }, false},
		{"one that wants nobody more", func(w *api.World) { *w, _ = world.Do(*w, link(0, 2)) }, true},
		{"the first end names an earlier boot number", func(w *api.World) { at(w, 0, 1).Boot-- }, false},
		{"the last end names an earlier boot number", func(w *api.World) { at(w, 2, 1).Boot-- }, false},
		{"an end names an earlier life", func(w *api.World) { at(w, 1, 0).Life-- }, false},
		{"an end is dropped", func(w *api.World) { w.Nodes[1].Halves = w.Nodes[1].Halves[1:] }, false},
		{"the other end is dropped", func(w *api.World) { w.Nodes[0].Halves = nil }, false},
		{"both ends are dropped", func(w *api.World) { w.Nodes[0].Halves, w.Nodes[1].Halves = nil, w.Nodes[1].Halves[1:] }, true},
		{"the first node is down", func(w *api.World) { down(w, 0) }, false},
		{"the last node is down", func(w *api.World) { down(w, 2) }, false},
		{"the node between is down", func(w *api.World) { down(w, 1) }, false},
		{"all nodes are down", func(w *api.World) { down(w, 0); down(w, 1); down(w, 2) }, true},
		{"a node that nobody holds is down", func(w *api.World) { *w = wider(*w); down(w, 3) }, true},
		{"one is open for the first name", func(w *api.World) { write(w, 0, 1, "a", api.Reg{Ver: 5, Writer: 0, Flow: 3}) }, false},
		{"one is open for the name between", func(w *api.World) { write(w, 1, 2, "m", api.Reg{Ver: 4, Writer: 2, Flow: 3}) }, false},
		{"one is open for the last name", func(w *api.World) { write(w, 2, 1, "n", api.Reg{}) }, false},
		{"one is open for a name that others have not", func(w *api.World) { lose(w, 0, "n"); bare(w, 2, "n") }, false},
		{"an end has no instance", func(w *api.World) { lose(w, 0, "m") }, true},
		{"an end has another instance", func(w *api.World) { record(w, 0, "m").Epoch++; write(w, 0, 1, "m", api.Reg{}) }, true},
		{"an ask is pending", func(w *api.World) { at(w, 0, 1).Pending, at(w, 0, 1).Misses = true, 2 }, true},
		{"estimates are far apart", func(w *api.World) { w.Nodes[0].Chans[0].Input = -99 }, true},
		{"an estimate is out of its range", func(w *api.World) { w.Nodes[0].Chans[0].Input = -most }, true},
		{"something was lost", func(w *api.World) { w.Lost = 7 }, true},
	} {
		w := changed(t, named(), c.what, c.do)
		is(t, w, c.what, Ready(w), c.want)
		is(t, w, c.what+", by the words", sayReady(w), c.want)
	}
}

// wider is a world with one node more.
func wider(w api.World) api.World {
	w.Nodes = append(w.Nodes, api.Node{Id: len(w.Nodes), Boot: 1})
	w.Up, w.Disks = append(w.Up, true), append(w.Disks, w.Disks[0])
	return w
}

// A half-edge of a node that is down plays no part, nor what it has of channels, though such a node has none if it is fit.
func TestP24_1NodesThatAreDown(t *testing.T) {
	w := deep(named())
	w.Nodes[0].Halves, w.Nodes[1].Halves = nil, w.Nodes[1].Halves[1:]
	hold(&w, 0, 2)
	w.Up[0] = false
	is(t, w, "a down node with a half-edge", Ready(w), true)
	w.Up[0] = true
	is(t, w, "once it is up", Ready(w), false)
}

// Runs of steps that lead to what is ready, and away from it.
func TestP24_1ReadyInRuns(t *testing.T) {
	for _, c := range []struct {
		what string
		n    int
		l    []api.Step
		want bool
	}{
		{"a new world", 3, nil, true},
		{"links", 2, first()[:2], true},
		{"a Hello in flight", 2, first()[:3], false},
		{"the edge is held", 2, first(), true},
		{"inputs", 2, fed(10, 0), true},
		{"an Ask in flight", 2, append(fed(10, 0), tick(0)), false},
		{"the Ask is lost", 2, append(fed(10, 0), tick(0), dropping(0)), true},
		{"the Answer is lost", 2, append(fed(10, 0), tick(0), deliver(0), dropping(0)), false},
		{"behind the next beat", 2, append(fed(10, 0), tick(0), deliver(0), dropping(0), tick(0), flush()), true},
		{"a crash", 2, append(fed(10, 0), crash(1)), false},
		{"and four ticks", 2, append(fed(10, 0), crash(1), tick(0), tick(0), tick(0), tick(0), flush()), true},
		{"it is back", 2, append(fed(10, 0), crash(1), starting(1)), false},
	} {
		w := run(t, c.n, c.l...)
		is(t, w, c.what, Ready(w), c.want)
	}
}

// kinds of events that a run may have and be calm.
func harmless() []int {
	return []int{api.EvHeld, api.EvBalanced, api.EvIgnored, 0, -1, api.NumEvents, 99, -api.EvRange}
}

// row is a beat with events of some kinds.
func row(kinds ...int) api.Beat {
	b := api.Beat{Node: 3}
	for _, k := range kinds {
		b.Events = append(b.Events, told(1, api.Event{Kind: k, Peer: 2, Name: "m", Num: 9}))
	}
	return b
}

func TestP24_3Calm(t *testing.T) {
	none := api.World{}
	is(t, none, "no beats", Calm(nil), true)
	is(t, none, "an empty list", Calm([]api.Beat{}), true)
	is(t, none, "a beat without events", Calm([]api.Beat{{}}), true)
	is(t, none, "harmless events", Calm([]api.Beat{row(harmless()...), row(api.EvHeld), row(), row(harmless()...)}), true)
	for _, err := range []api.Errno{1, -1, api.ErrNode, api.ErrDown, 1 << 40} {
		bad := api.Beat{Node: 1, Err: err}
		is(t, none, "one with an error", Calm([]api.Beat{bad}), false)
		for at := range 4 {
			is(t, none, "an error among beats", Calm(slices.Insert([]api.Beat{row(api.EvHeld), row(), row(api.EvBalanced)}, at, bad)), false)
		}
	}
	for _, kind := range []int{api.EvRange, api.EvLearned, api.EvDropped} {
		is(t, none, "one event", Calm([]api.Beat{row(kind)}), false)
		for at := range 4 {
			bad := row(slices.Insert([]int{api.EvHeld, api.EvBalanced, api.EvIgnored}, at, kind)...)
			is(t, none, "an event among others", Calm([]api.Beat{bad}), false)
			for among := range 4 {
				l := slices.Insert([]api.Beat{row(), row(api.EvHeld), row(harmless()...)}, among, bad)
				is(t, none, "and among beats", Calm(l), false)
			}
		}
	}
	for _, kind := range harmless() {
		is(t, none, "one harmless event", Calm([]api.Beat{row(kind)}), true)
	}
}

func TestP24_3Drawn(t *testing.T) {
	d, sorts := newDice(3), map[string]int{}
	for range 5000 {
		l := d.beats()
		is(t, api.World{}, "Calm", Calm(l), sayCalm(l))
		sorts[word(Calm(l), "calm", "not calm")]++
	}
	enough(t, sorts, 1000, "calm", "not calm")
}

// The words of Ready and of Open are those of package view.
func TestWordsOfView(t *testing.T) {
	d := newDice(4)
	for range 300 {
		w := d.one()
		s := lookAt(w)
		for a := range w.Nodes {
			for b := range w.Nodes {
				is(t, w, "Held", view.Held(w, a, b), a != b && s.held(a, b))
			}
		}
		for _, name := range names3() {
			is(t, w, "Open", len(view.Open(w, name)) > 0, s.somewhere(name))
			is(t, w, "Everywhere", view.Everywhere(w, name), s.everywhere(name))
		}
	}
}
