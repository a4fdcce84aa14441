package view

import (
	"math"
	"slices"
	"testing"

	"eddy/api"
)

// pair is a world of five nodes in which 1 and 2 hold an edge, and 1 and 3 another one.
func pair() api.World {
	w := plain(5)
	join(&w, 1, 2)
	join(&w, 1, 3)
	return w
}

// turn is a way in which a world is another one: said of the edge of a node and its peer.
type turn struct {
	what string
	do   func(w *api.World, a, b int)
}

// parted are turns by which an edge is not held any more.
func parted() []turn {
	return []turn{
		{"one end is down", func(w *api.World, a, b int) { down(w, a) }},
		{"both ends are down", func(w *api.World, a, b int) { down(w, a); down(w, b) }},
		{"one end has no half-edge", func(w *api.World, a, b int) { unhold(w, a, b) }},
		{"neither end has one", func(w *api.World, a, b int) { unhold(w, a, b); unhold(w, b, a) }},
		{"an earlier boot number is named", func(w *api.World, a, b int) { at(w, a, b).Boot-- }},
		{"a later boot number is named", func(w *api.World, a, b int) { at(w, a, b).Boot++; seen(w, a, b).Boot++ }},
		{"the first boot number is named", func(w *api.World, a, b int) { at(w, a, b).Boot = 1 }},
		{"the own boot number is named", func(w *api.World, a, b int) { at(w, a, b).Boot = bootOf(a); seen(w, a, b).Boot = 99 }},
		{"an earlier life is named", func(w *api.World, a, b int) { at(w, a, b).Life-- }},
		{"a later life is named", func(w *api.World, a, b int) { at(w, a, b).Life++; seen(w, a, b).Life++ }},
		{"the first life is named", func(w *api.World, a, b int) { at(w, a, b).Life = 0 }},
		{"the own life is named", func(w *api.World, a, b int) { at(w, a, b).Life = mineOf(a, b); seen(w, a, b).Life = 999 }},
		{"the life towards another one is named", func(w *api.World, a, b int) { at(w, a, b).Life = mineOf(b, 4); seen(w, a, b).Life = 999 }},
		{"the peer has started again", func(w *api.World, a, b int) { w.Nodes[b].Boot++ }},
		{"the peer has dropped it ahead", func(w *api.World, a, b int) { seen(w, b, a).Mine++ }},
		{"the peer's life is an earlier one", func(w *api.World, a, b int) { seen(w, b, a).Mine-- }},
		{"the peer's life is the first one", func(w *api.World, a, b int) { seen(w, b, a).Mine = 0 }},
		{"boot number and life are another one's", func(w *api.World, a, b int) {
			h := at(w, a, b)
			h.Boot, h.Life = h.Boot-1, h.Life+1
		}},
		{"the boot number is the life", func(w *api.World, a, b int) {
			h := at(w, a, b)
			*seen(w, a, b) = api.Seen{Peer: b, Boot: 999, Life: 999}
			h.Boot, h.Life = h.Life, h.Boot
		}},
	}
}

// kept are turns by which an edge is held as it was.
func kept() []turn {
	return []turn{
		{"nothing", func(w *api.World, a, b int) {}},
		{"an ask is pending", func(w *api.World, a, b int) { at(w, a, b).Pending = true }},
		{"there are misses", func(w *api.World, a, b int) { h := at(w, a, b); h.Pending, h.Misses = true, 2 }},
		{"a later life was seen", func(w *api.World, a, b int) { seen(w, a, b).Life++ }},
		{"a later boot number was seen", func(w *api.World, a, b int) { seen(w, a, b).Boot++ }},
		{"both started again, and know it", func(w *api.World, a, b int) {
			for _, way := range [][2]int{{a, b}, {b, a}} {
				w.Nodes[way[0]].Boot = 500
				seen(w, way[1], way[0]).Boot, at(w, way[1], way[0]).Boot = 500, 500
			}
		}},
		{"the first boot numbers and lives", func(w *api.World, a, b int) {
			for _, way := range [][2]int{{a, b}, {b, a}} {
				w.Nodes[way[0]].Boot = 1
				*seen(w, way[1], way[0]) = api.Seen{Peer: way[0], Boot: 1}
				name(w, way[1], way[0], 1, 0)
			}
		}},
		{"the last boot numbers and lives", func(w *api.World, a, b int) {
			for _, way := range [][2]int{{a, b}, {b, a}} {
				w.Nodes[way[0]].Boot = api.MaxBoot
				*seen(w, way[1], way[0]) = api.Seen{Peer: way[0], Boot: api.MaxBoot, Life: api.MaxLife, Mine: api.MaxLife}
				name(w, way[1], way[0], api.MaxBoot, api.MaxLife)
			}
		}},
		{"another edge of an end is not held", func(w *api.World, a, b int) { seen(w, 1, 3).Mine++; at(w, 1, 3).Boot-- }},
		{"another node is down", func(w *api.World, a, b int) { down(w, 3) }},
		{"the pair is severed", func(w *api.World, a, b int) { w.Mail.Severed = []api.Link{{A: min(a, b), B: max(a, b)}} }},
		{"a node has ticked", func(w *api.World, a, b int) { w.Nodes[a].Ticks = 7 }},
		{"what an end wants stands otherwise", func(w *api.World, a, b int) { slices.Reverse(w.Nodes[a].Want); w.Nodes[1].Turn = 1 }},
	}
}

// name lets a half-edge name an incarnation.
func name(w *api.World, a, b int, boot, life int64) { at(w, a, b).Boot, at(w, a, b).Life = boot, life }

// unhold takes a half-edge from a node.
func unhold(w *api.World, a, b int) {
	w.Nodes[a].Halves = slices.DeleteFunc(w.Nodes[a].Halves, func(h api.Half) bool { return h.Peer == b })
}

// turned hands out worlds in which the edge of 1 and 2 is turned, at either end.
func turned(t *testing.T, w api.World, turns []turn, do func(what string, w api.World)) {
	t.Helper()
	for _, x := range turns {
		do(x.what+", at 1", changed(t, w, x.what, func(w *api.World) { x.do(w, 1, 2) }))
		do(x.what+", at 2", changed(t, w, x.what, func(w *api.World) { x.do(w, 2, 1) }))
	}
}

// checked are answers by the words, whatever else a test asks.
func checked(t *testing.T, w api.World) {
	t.Helper()
	check(t, w, map[string]int{}, append(subsets(len(w.Nodes)), Groups(w)...)...)
}

func TestP22_1Held(t *testing.T) {
	for want, turns := range map[bool][]turn{true: kept(), false: parted()} {
		turned(t, pair(), turns, func(what string, w api.World) {
			if Held(w, 1, 2) != want || Held(w, 2, 1) != want {
				t.Errorf("%s: %t and %t, want %t", what, Held(w, 1, 2), Held(w, 2, 1), want)
			}
			if slices.Contains(Edges(w), api.Link{A: 1, B: 2}) != want {
				t.Errorf("%s: %v", what, Edges(w))
			}
			checked(t, w)
		})
	}
}

func TestP22_1HeldOfNumbers(t *testing.T) {
	w := pair()
	for _, a := range numbers(5) {
		for _, b := range numbers(5) {
			want := a == 1 && (b == 2 || b == 3) || b == 1 && (a == 2 || a == 3)
			if Held(w, a, b) != want || Agreed(w, a, b, "m") {
				t.Errorf("Held of %d and %d: %t", a, b, Held(w, a, b))
			}
		}
	}
	for n := 1; n <= 16; n++ {
		w := plain(n)
		for a := range n {
			if Held(w, a, a) || Held(w, a, (a+1)%n) || Held(w, a, n) || Held(w, n, a) || Held(w, -1, a) || Held(w, a, -1) {
				t.Errorf("%d of %d nodes without half-edges", a, n)
			}
		}
	}
}

// Edges that wait for each other's words at each moment of a handshake.
func TestP22_1HeldInARun(t *testing.T) {
	w := run(t, 2, link(0, 1), link(1, 0), tick(0))
	is(t, w, "behind the Hello", Held(w, 0, 1), false)
	w = run(t, 2, link(0, 1), link(1, 0), tick(0), deliver(0), deliver(0))
	is(t, w, "one end holds it", len(w.Nodes[0].Halves)+len(w.Nodes[1].Halves), 1)
	is(t, w, "behind the Welcome", Held(w, 0, 1), false)
	w = run(t, 2, link(0, 1), link(1, 0), tick(0), deliver(0), deliver(0), deliver(0))
	is(t, w, "behind the Ask", Held(w, 0, 1), true)
	again := append(shared(), crash(1), starting(1), link(1, 0))
	w = run(t, 2, again...)
	is(t, w, "behind a restart", Held(w, 0, 1), false)
	w = run(t, 2, append(again, tick(1), flush())...)
	is(t, w, "when both have heard", Held(w, 0, 1), true)
	w = run(t, 2, append(shared(), api.Step{Kind: api.StUnlink, A: 0, B: 1}, link(0, 1))...)
	is(t, w, "behind an unlink", Held(w, 0, 1), false)
	w = run(t, 2, append(shared(), api.Step{Kind: api.StUnlink, A: 0, B: 1}, link(0, 1), api.Step{Kind: api.StDrop}, tick(0), flush())...)
	is(t, w, "behind a Bye that is lost, and a tick", Held(w, 0, 1), true)
}

func TestP22_1Instance(t *testing.T) {
	w := pair()
	for kind := api.KMean; kind <= api.KExt; kind++ {
		have(&w, kind-1, api.State{Chan: api.Chan{Name: "m", Epoch: int64(5 + kind), Maker: kind, Alive: true, Kind: kind, Scale: 1}})
		have(&w, kind-1, api.State{Chan: api.Chan{Name: "d", Epoch: 1, Maker: 15, Kind: kind, Scale: 1}})
	}
	have(&w, 4, api.State{Chan: api.Chan{Name: "n", Epoch: api.MaxEpoch, Alive: true, Kind: api.KMean, Scale: 1 << 20}, Has: true, Input: most})
	w = changed(t, w, "channels", func(*api.World) {})
	checked(t, w)
	for a := range 4 {
		c, has := Instance(w, a, "m")
		is(t, w, "Instance", ended{c, has, 0}, ended{api.Chan{Name: "m", Epoch: int64(6 + a), Maker: a + 1, Alive: true, Kind: a + 1, Scale: 1}, true, 0})
		without(t, w, a, "d", "n", "", "mm", "m ", "M", "l", "\xff", "abcdefghijklmnopq")
	}
	c, has := Instance(w, 4, "n")
	is(t, w, "Instance", ended{c, has, 0}, ended{api.Chan{Name: "n", Epoch: 1 << 40, Alive: true, Kind: 1, Scale: 1 << 20}, true, 0})
	for _, a := range []int{math.MinInt, -1, 5, 6, 16, 1 << 32, 1<<32 + 1, math.MaxInt} {
		without(t, w, a, "m", "d", "n", "")
	}
	w = changed(t, w, "down", func(w *api.World) { down(w, 1) })
	without(t, w, 1, "m", "d", "n", "")
	if _, has := Instance(w, 2, "m"); !has {
		t.Error("2 has no instance any more")
	}
}

// without wants that a node has no instances.
func without(t *testing.T, w api.World, a int, names ...string) {
	t.Helper()
	for _, name := range names {
		if c, has := Instance(w, a, name); has || c != (api.Chan{}) {
			t.Errorf("Instance of %d of %q: %+v, %t", a, name, c, has)
		}
	}
}

// sharing is pair, all nodes of which have m and n, and the register of m on both edges.
func sharing(kind int) api.World {
	w := pair()
	all(&w, of("m", kind), 10, 20, 30, 40, 50)
	all(&w, of("n", api.KMean), 1, 2, 3, 4, 5)
	flow(&w, 1, 2, "m", 7)
	flow(&w, 1, 3, "m", -9)
	flow(&w, 1, 3, "n", 2)
	return w
}

// uneven are turns by which an edge is open for m, and stays agreed for n.
func uneven() []turn {
	return []turn{
		{"the flow is another one", func(w *api.World, a, b int) { write(w, a, b, "m", api.Reg{Ver: 4, Writer: 1, Flow: 6}) }},
		{"the flow has the other sign", func(w *api.World, a, b int) { write(w, a, b, "m", api.Reg{Ver: 4, Writer: 1, Flow: -7}) }},
		{"the flow is nought", func(w *api.World, a, b int) { write(w, a, b, "m", api.Reg{Ver: 4, Writer: 1}) }},
		{"the version is another one", func(w *api.World, a, b int) { write(w, a, b, "m", api.Reg{Ver: 5, Writer: 1, Flow: 7}) }},
		{"the writer is another one", func(w *api.World, a, b int) { write(w, a, b, "m", api.Reg{Ver: 4, Writer: 2, Flow: 7}) }},
		{"one end has the zero register", func(w *api.World, a, b int) { write(w, a, b, "m", api.Reg{}) }},
		{"one end has the zero register, the other one no flow", func(w *api.World, a, b int) {
			write(w, a, b, "m", api.Reg{})
			write(w, b, a, "m", api.Reg{Ver: 1, Writer: a})
		}},
		{"it is the register of another channel", func(w *api.World, a, b int) {
			write(w, a, b, "n", at(w, a, b).Lines[0].Reg)
			write(w, b, a, "n", at(w, a, b).Lines[0].Reg)
			write(w, a, b, "m", api.Reg{})
		}},
	}
}

// even are turns by which an edge stays agreed for m.
func even() []turn {
	return []turn{
		{"both have the zero register", func(w *api.World, a, b int) { write(w, a, b, "m", api.Reg{}); write(w, b, a, "m", api.Reg{}) }},
		{"both have another register", func(w *api.World, a, b int) { flow(w, a, b, "m", most) }},
		{"inputs are others", func(w *api.World, a, b int) { w.Nodes[a].Chans[0].Input = -most }},
		{"an input was not set", func(w *api.World, a, b int) { w.Nodes[a].Chans[0].Has, w.Nodes[a].Chans[0].Input = false, 0 }},
		{"the scale is another one", func(w *api.World, a, b int) { record(w, a, "m").Scale = 9 }},
		{"the kind is another one, with flows", func(w *api.World, a, b int) {
			record(w, a, "m").Kind = record(w, a, "m").Kind%3 + 1
		}},
		{"another edge is open", func(w *api.World, a, b int) { write(w, 3, 1, "m", api.Reg{Ver: 9, Writer: 1, Flow: 1}) }},
		{"another channel is gone", func(w *api.World, a, b int) { lose(w, a, "n") }},
		{"another node has no instance", func(w *api.World, a, b int) { lose(w, 3, "m") }},
	}
}

// apart are turns by which two nodes have not one instance of m with flows.
func apart() []turn {
	return []turn{
		{"one end has no instance", func(w *api.World, a, b int) { lose(w, a, "m") }},
		{"neither end has one", func(w *api.World, a, b int) { lose(w, a, "m"); lose(w, b, "m") }},
		{"an earlier epoch", func(w *api.World, a, b int) { record(w, a, "m").Epoch-- }},
		{"a later epoch", func(w *api.World, a, b int) { record(w, a, "m").Epoch++ }},
		{"another maker", func(w *api.World, a, b int) { record(w, a, "m").Maker = 0 }},
		{"epoch and maker the other way round", func(w *api.World, a, b int) {
			record(w, a, "m").Epoch, record(w, a, "m").Maker = 1, 3
		}},
		{"one end's record is not alive", func(w *api.World, a, b int) { end(w, a) }},
		{"neither record is alive", func(w *api.World, a, b int) { end(w, a); end(w, b) }},
		{"one end's kind has no flows", func(w *api.World, a, b int) { extreme(w, a) }},
		{"neither kind has flows", func(w *api.World, a, b int) { extreme(w, a); extreme(w, b) }},
	}
}

// end lets the record of m at a node be not alive.
func end(w *api.World, a int) {
	c := *record(w, a, "m")
	c.Alive = false
	lose(w, a, "m")
	have(w, a, api.State{Chan: c})
}

// extreme lets m be of KExt at a node.
func extreme(w *api.World, a int) {
	c := *record(w, a, "m")
	c.Kind = api.KExt
	lose(w, a, "m")
	have(w, a, api.State{Chan: c})
}

// stand wants that the edge of 1 and 2 is agreed for m, or open, or neither.
func stand(t *testing.T, what string, w api.World, agreed, open bool) {
	t.Helper()
	if Agreed(w, 1, 2, "m") != agreed || Agreed(w, 2, 1, "m") != agreed {
		t.Errorf("%s: agreed %t and %t, want %t", what, Agreed(w, 1, 2, "m"), Agreed(w, 2, 1, "m"), agreed)
	}
	if slices.Contains(Open(w, "m"), api.Link{A: 1, B: 2}) != open {
		t.Errorf("%s: open are %v", what, Open(w, "m"))
	}
}

func TestP22_2Agreed(t *testing.T) {
	for kind := api.KMean; kind <= api.KSquare; kind++ {
		w := sharing(kind)
		turned(t, w, append(kept(), even()...), func(what string, w api.World) { stand(t, what, w, true, false); checked(t, w) })
		turned(t, w, uneven(), func(what string, w api.World) { stand(t, what, w, false, true); checked(t, w) })
		turned(t, w, append(parted(), apart()...), func(what string, w api.World) { stand(t, what, w, false, false); checked(t, w) })
	}
}

// Where both registers are zero, nothing but the instances, and who holds the edge, can tell.
func TestP22_2AgreedWithoutRegisters(t *testing.T) {
	w := sharing(api.KMean)
	bare(&w, 1, "m")
	bare(&w, 2, "m")
	turned(t, w, kept(), func(what string, w api.World) { stand(t, what, w, true, false); checked(t, w) })
	turned(t, w, append(parted(), apart()...), func(what string, w api.World) { stand(t, what, w, false, false); checked(t, w) })
}

// What is not held is not open, whatever the registers are.
func TestP22_3OpenIsHeld(t *testing.T) {
	w := sharing(api.KMean)
	write(&w, 2, 1, "m", api.Reg{Ver: 9, Writer: 1, Flow: 1})
	turned(t, w, kept(), func(what string, w api.World) { stand(t, what, w, false, true) })
	turned(t, w, parted(), func(what string, w api.World) { stand(t, what, w, false, false) })
	for _, name := range texts() {
		want := []api.Link{}
		if name == "m" {
			want = []api.Link{{A: 1, B: 2}}
		}
		is(t, w, "Open "+name, Open(w, name), want)
	}
}

func TestP22_2AgreedOfNumbers(t *testing.T) {
	w := sharing(api.KMean)
	for _, a := range numbers(5) {
		for _, b := range numbers(5) {
			want := a == 1 && (b == 2 || b == 3) || b == 1 && (a == 2 || a == 3)
			for _, name := range texts() {
				if Agreed(w, a, b, name) != (want && (name == "m" || name == "n")) {
					t.Errorf("Agreed of %d and %d for %q: %t", a, b, name, Agreed(w, a, b, name))
				}
			}
		}
	}
}

// joined is a world with edges, and a channel everywhere.
func joined(n int, edges ...api.Link) api.World {
	w := plain(n)
	for _, l := range edges {
		join(&w, l.A, l.B)
	}
	for a := range n {
		have(&w, a, api.State{Chan: of("m", api.KMean)})
	}
	return w
}

func TestP22_3Edges(t *testing.T) {
	three := []api.Link{{A: 0, B: 2}, {A: 0, B: 4}, {A: 1, B: 2}, {A: 1, B: 3}, {A: 2, B: 3}, {A: 3, B: 4}}
	for _, c := range []struct {
		n    int
		made []api.Link // in this order
		want []api.Link
	}{
		{1, nil, nil},
		{3, nil, nil},
		{2, []api.Link{{A: 0, B: 1}}, []api.Link{{A: 0, B: 1}}},
		{2, []api.Link{{A: 1, B: 0}}, []api.Link{{A: 0, B: 1}}},
		{16, []api.Link{{A: 15, B: 14}}, []api.Link{{A: 14, B: 15}}},
		{5, []api.Link{{A: 4, B: 3}, {A: 2, B: 1}, {A: 3, B: 2}, {A: 4, B: 0}, {A: 3, B: 1}, {A: 2, B: 0}}, three},
		{5, three, three},
		{12, []api.Link{{A: 10, B: 2}, {A: 9, B: 10}, {A: 9, B: 2}, {A: 11, B: 1}, {A: 1, B: 10}}, []api.Link{{A: 1, B: 10}, {A: 1, B: 11}, {A: 2, B: 9}, {A: 2, B: 10}, {A: 9, B: 10}}},
	} {
		w := changed(t, joined(c.n, c.made...), "edges", func(*api.World) {})
		is(t, w, "Edges", Edges(w), c.want)
		is(t, w, "Open", Open(w, "m"), []api.Link{})
		for _, l := range c.want { // all of them open
			write(&w, l.A, l.B, "m", api.Reg{Ver: 1, Writer: l.A, Flow: 1})
		}
		is(t, w, "Edges, open", Edges(w), c.want)
		is(t, w, "Open of all", Open(w, "m"), c.want)
		for i, l := range c.want { // all but one
			flow(&w, l.A, l.B, "m", 3)
			is(t, w, "Open of all but one", Open(w, "m"), slices.Delete(slices.Clone(c.want), i, i+1))
			write(&w, l.B, l.A, "m", api.Reg{})
		}
		checkedGroups(t, w)
	}
}

// checkedGroups is checked, but of fewer sets: the groups alone.
func checkedGroups(t *testing.T, w api.World) {
	t.Helper()
	check(t, w, map[string]int{}, append(Groups(w), nil)...)
}

// Nodes that are down, and half-edges of one end, leave the other edges as they are.
func TestP22_3EdgesThatAreThere(t *testing.T) {
	w := joined(6, api.Link{A: 0, B: 5}, api.Link{A: 1, B: 2}, api.Link{A: 1, B: 4}, api.Link{A: 2, B: 3}, api.Link{A: 3, B: 4}, api.Link{A: 0, B: 1})
	down(&w, 2)
	unhold(&w, 4, 1)
	at(&w, 0, 5).Life--
	is(t, w, "Edges", Edges(w), []api.Link{{A: 0, B: 1}, {A: 3, B: 4}})
	checkedGroups(t, w)
	for a := range 6 {
		if w.Up[a] {
			down(&w, a)
		}
	}
	is(t, w, "Edges, all down", Edges(w), []api.Link{})
	checkedGroups(t, w)
}
