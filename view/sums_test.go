package view

import (
	"fmt"
	"math"
	"slices"
	"testing"

	"eddy/api"
)

// several is a world of six nodes: 0 and 1 have m, 2 is down, 3 has no m, 4 has a record that is not alive, 5 one without
// flows. 0 and 1 hold their edge, over which 7 goes from 0 to 1.
func several() api.World {
	w := plain(6)
	join(&w, 0, 1)
	join(&w, 1, 3)
	all(&w, of("m", api.KMean), 10, -4, 30)
	all(&w, of("n", api.KSquare), 1, 2, 3, 4, 5, 6)
	gone := of("m", api.KMean)
	gone.Alive = false
	have(&w, 4, api.State{Chan: gone})
	have(&w, 5, api.State{Chan: of("m", api.KExt), Has: true, Input: 8})
	flow(&w, 0, 1, "m", 7)
	down(&w, 2)
	return w
}

func TestP22_4Seats(t *testing.T) {
	w := changed(t, several(), "several", func(*api.World) {})
	is(t, w, "Seats m", Seats(w, "m"), []api.Seat{{Node: 0, Input: 10, Estimate: 3}, {Node: 1, Input: -4, Estimate: 3}})
	is(t, w, "Seats n", Seats(w, "n"), []api.Seat{{Node: 0, Input: 1, Estimate: 1}, {Node: 1, Input: 2, Estimate: 2}, {Node: 3, Input: 4, Estimate: 4}, {Node: 4, Input: 5, Estimate: 5}, {Node: 5, Input: 6, Estimate: 6}})
	for _, name := range []string{"", "mm", "M", "a", "\xff", "l"} {
		is(t, w, "Seats of none", Seats(w, name), []api.Seat{})
	}
	checked(t, w)
	out := changed(t, w, "out of the range", func(w *api.World) { flow(w, 0, 1, "m", -most) })
	is(t, out, "an estimate out of its range", Seats(out, "m"), []api.Seat{{Node: 0, Input: 10, Err: api.ErrRange}, {Node: 1, Input: -4, Err: api.ErrRange}})
	checked(t, out)
	one := changed(t, w, "the other end's is not", func(w *api.World) { flow(w, 0, 1, "m", most); w.Nodes[0].Chans[0].Input = 0 })
	is(t, one, "one of two out of its range", Seats(one, "m"), []api.Seat{{Node: 0, Estimate: -most}, {Node: 1, Input: -4, Estimate: most - 4}})
	all := changed(t, w, "all down", func(w *api.World) {
		for a := range 6 {
			if w.Up[a] {
				down(w, a)
			}
		}
	})
	is(t, all, "Seats of those that are down", Seats(all, "m"), []api.Seat{})
	checked(t, all)
}

// Nobody asks for one instance here: who has any of the name has a seat, of each kind with flows.
func TestP22_4SeatsOfAllInstances(t *testing.T) {
	w := plain(16)
	var want []api.Seat
	for a := range 16 {
		c := api.Chan{Name: "m", Epoch: int64(1 + a), Maker: 15 - a, Alive: true, Kind: 1 + a%4, Scale: 1}
		have(&w, a, api.State{Chan: c, Has: a > 2, Input: int64(max(a-2, 0))})
		if c.Kind != api.KExt {
			want = append(want, api.Seat{Node: a, Input: int64(max(a-2, 0)), Estimate: int64(max(a-2, 0))})
		}
	}
	w = changed(t, w, "instances of all sorts", func(*api.World) {})
	is(t, w, "Seats", Seats(w, "m"), want)
	checkedGroups(t, w)
}

func TestP22_5Everywhere(t *testing.T) {
	every := func() api.World {
		w := sharing(api.KCount)
		all(&w, of("e", api.KExt), 1, 2, 3, 4, 5)
		return w
	}
	for _, name := range texts() {
		is(t, every(), "Everywhere "+name, Everywhere(every(), name), name == "m" || name == "n")
	}
	is(t, every(), "of a kind without flows", Everywhere(every(), "e"), false)
	turned(t, every(), slices.Concat(kept(), uneven(), even()[:len(even())-1], parted()), func(what string, w api.World) {
		if !Everywhere(w, "m") {
			t.Errorf("%s: not everywhere", what)
		}
	})
	for a := range 5 { // any one of them
		for _, x := range apart() {
			b := (a + 1) % 5
			w := changed(t, every(), x.what, func(w *api.World) { x.do(w, a, b) })
			is(t, w, fmt.Sprint(x.what, ", at ", a), Everywhere(w, "m"), false)
			checkedGroups(t, w)
			alone := changed(t, w, x.what, func(w *api.World) { // those who differ are down
				down(w, a)
				if c, has := Instance(*w, b, "m"); !has || c != of("m", api.KCount) {
					down(w, b)
				}
			})
			is(t, alone, x.what+", and down", Everywhere(alone, "m"), true)
		}
	}
	w := every()
	for a := range 5 {
		is(t, w, "with some down", Everywhere(w, "m"), true)
		down(&w, a)
	}
	is(t, w, "nobody is up", Everywhere(w, "m"), false)
	one := changed(t, joined(1), "one node", func(*api.World) {})
	is(t, one, "one node", Everywhere(one, "m"), true)
	is(t, one, "one node without it", Everywhere(one, "n"), false)
}

// ring is a world of five nodes, in which 0, 1 and 2 hold edges round, and 3 and 4 hold theirs.
func ring() api.World {
	w := joined(5, api.Link{A: 0, B: 1}, api.Link{A: 1, B: 2}, api.Link{A: 0, B: 2}, api.Link{A: 3, B: 4})
	flow(&w, 0, 1, "m", 5)
	flow(&w, 0, 2, "m", -2)
	flow(&w, 3, 4, "m", 1)
	return w
}

func TestP22_6Closed(t *testing.T) {
	w := changed(t, ring(), "ring", func(*api.World) {})
	for _, c := range []struct {
		set  []int
		want bool
	}{
		{nil, true}, {[]int{}, true},
		{[]int{0, 1, 2}, true}, {[]int{2, 0, 1}, true}, {[]int{1, 0, 2}, true}, {[]int{3, 4}, true}, {[]int{4, 3}, true},
		{[]int{0, 1, 2, 3, 4}, true}, {[]int{4, 2, 0, 3, 1}, true},
		{[]int{0}, false}, {[]int{0, 1}, false}, {[]int{1, 2}, false}, {[]int{0, 1, 2, 3}, false}, {[]int{3}, false}, {[]int{0, 3, 4}, false},
		{[]int{3, 4, 3}, false}, {[]int{3, 3, 4}, false}, {[]int{3, 3}, false}, {[]int{3, 4, 4, 3}, false}, {[]int{0, 1, 2, 0, 1, 2}, false},
		{[]int{-1}, false}, {[]int{5}, false}, {[]int{3, 4, -1}, false}, {[]int{-1, 3, 4}, false}, {[]int{3, 4, 5}, false}, {[]int{3, 5, 4}, false},
		{[]int{3, 4, math.MaxInt}, false}, {[]int{math.MinInt, 3, 4}, false}, {[]int{3, 4, 16}, false}, {[]int{3 + 1<<32, 4}, false}, {[]int{-1, -1}, false},
		{make([]int, 1<<20), false},
	} {
		if Closed(w, c.set, "m") != c.want {
			t.Errorf("Closed of %v: %t", c.set[:min(len(c.set), 8)], !c.want)
		}
		for _, name := range texts() {
			if name != "m" && Closed(w, c.set, name) != (len(c.set) == 0) {
				t.Errorf("Closed of %v for %q: %t", c.set[:min(len(c.set), 8)], name, len(c.set) > 0)
			}
		}
	}
}

func TestP22_6ClosedOfTurns(t *testing.T) {
	three, others := []int{0, 1, 2}, []int{3, 4}
	closed := func(what string, w api.World, want bool) {
		t.Helper()
		for _, set := range [][]int{three, {2, 1, 0}, {1, 2, 0}, {3, 2, 1, 0, 4}} {
			if Closed(w, set, "m") != want {
				t.Errorf("%s: Closed of %v: %t", what, set, !want)
			}
		}
		if !Closed(w, others, "m") {
			t.Errorf("%s: the others are not closed", what)
		}
		checked(t, w)
	}
	for _, x := range []turn{
		{"nothing", func(w *api.World, a, b int) {}},
		{"another register, at both ends", func(w *api.World, a, b int) { flow(w, a, b, "m", most) }},
		{"inputs", func(w *api.World, a, b int) {
			w.Nodes[a].Chans[0] = api.State{Chan: of("m", api.KMean), Has: true, Input: -most}
		}},
		{"another kind with flows, and another scale", func(w *api.World, a, b int) { record(w, a, "m").Kind, record(w, a, "m").Scale = api.KSquare, 5 }},
		{"an edge that nobody holds", func(w *api.World, a, b int) { unhold(w, a, b); unhold(w, b, a) }},
		{"another channel", func(w *api.World, a, b int) { have(w, a, api.State{Chan: of("n", api.KMean)}) }},
	} {
		turned(t, ring(), []turn{x}, func(what string, w api.World) { closed(what, w, true) })
	}
	for _, x := range slices.Concat(apart()[:1], apart()[2:4], apart()[6:7], apart()[8:9], []turn{
		{"another maker", func(w *api.World, a, b int) { record(w, a, "m").Maker = 0 }},
		{"another maker at one who holds nothing", func(w *api.World, a, b int) {
			for _, p := range []int{0, 1, 2} {
				if p != a {
					unhold(w, a, p)
					unhold(w, p, a)
				}
			}
			record(w, a, "m").Maker = 2
		}},
		{"one that is down", func(w *api.World, a, b int) { down(w, a) }},
		{"a half-edge at one end alone", func(w *api.World, a, b int) { unhold(w, a, b) }},
		{"an incarnation that is over", func(w *api.World, a, b int) { at(w, a, b).Boot-- }},
		{"a life that is over", func(w *api.World, a, b int) { seen(w, a, b).Mine++ }},
		{"a register at one end alone", func(w *api.World, a, b int) { write(w, a, b, "m", api.Reg{Ver: 9, Writer: a}) }},
	}) {
		turned(t, ring(), []turn{x}, func(what string, w api.World) { closed(what, w, false) })
	}
}

// A half-edge that leads out of the set, at each place in it, to one that is up or down, held by both ends or by one.
func TestP22_6ClosedLeadsOut(t *testing.T) {
	for _, a := range []int{0, 1, 2} {
		w := changed(t, ring(), "an edge to 4", func(w *api.World) { join(w, a, 4) })
		for what, w := range map[string]api.World{
			"held by both":       w,
			"held by the set":    changed(t, w, "one end", func(w *api.World) { unhold(w, 4, a) }),
			"to one who is down": changed(t, w, "down", func(w *api.World) { down(w, 4) }),
		} {
			if Closed(w, []int{0, 1, 2}, "m") || Closed(w, []int{2, 1, 0}, "m") {
				t.Errorf("%s, from %d: closed", what, a)
			}
			is(t, w, what+": all of them", Closed(w, []int{0, 1, 2, 3, 4}, "m"), what == "held by both")
			checked(t, w)
		}
		in := changed(t, w, "held by the other", func(w *api.World) { unhold(w, a, 4) })
		is(t, in, "a half-edge that leads into the set", Closed(in, []int{0, 1, 2}, "m"), true)
		is(t, in, "with where that comes from", Closed(in, []int{0, 1, 2, 3, 4}, "m"), false)
		checked(t, in)
	}
}

// Kinds without flows are never closed, but where there is nobody.
func TestP22_6ClosedWithoutFlows(t *testing.T) {
	w := plain(3)
	join(&w, 0, 1)
	all(&w, of("m", api.KExt), 1, 2, 3)
	for _, set := range subsets(3) {
		is(t, w, "Closed", Closed(w, set, "m"), len(set) == 0)
	}
	for kind := api.KMean; kind <= api.KSquare; kind++ {
		w := plain(3)
		join(&w, 0, 1)
		all(&w, of("m", kind), 1, 2, 3)
		for _, set := range [][]int{{2}, {0, 1}, {2, 1, 0}} {
			is(t, w, "Closed", Closed(w, set, "m"), true)
		}
	}
}

func sumsAre(t *testing.T, w api.World, name string, set []int, estimates, inputs int64, err api.Errno) {
	t.Helper()
	x, y, e := Sums(w, set, name)
	if x != estimates || y != inputs || e != err {
		t.Errorf("Sums of %v: %d, %d, %v, want %d, %d, %v", set[:min(len(set), 9)], x, y, e, estimates, inputs, err)
	}
}

func TestP22_7Sums(t *testing.T) {
	w := several()
	w.Nodes[1].Chans[0].Input = -6 // its estimate is 1
	w = changed(t, w, "several", func(*api.World) {})
	sumsAre(t, w, "m", nil, 0, 0, api.OK)
	sumsAre(t, w, "m", []int{}, 0, 0, api.OK)
	sumsAre(t, w, "no name", nil, 0, 0, api.OK)
	sumsAre(t, w, "m", []int{0}, 3, 10, api.OK)
	sumsAre(t, w, "m", []int{1}, 1, -6, api.OK)
	sumsAre(t, w, "m", []int{0, 1}, 4, 4, api.OK)
	sumsAre(t, w, "m", []int{1, 0}, 4, 4, api.OK)
	sumsAre(t, w, "m", []int{1, 0, 1, 1}, 6, -8, api.OK)
	sumsAre(t, w, "m", []int{0, 0}, 6, 20, api.OK)
	sumsAre(t, w, "n", []int{3, 4, 5}, 15, 15, api.OK)
	for _, c := range []struct {
		a   int
		err api.Errno
	}{{-1, api.ErrNode}, {6, api.ErrNode}, {7, api.ErrNode}, {15, api.ErrNode}, {16, api.ErrNode}, {math.MinInt, api.ErrNode}, {math.MaxInt, api.ErrNode}, {1 << 32, api.ErrNode},
		{2, api.ErrDown}, {3, api.ErrNone}, {4, api.ErrNone}, {5, api.ErrKind}} {
		for _, set := range [][]int{{c.a}, {0, c.a}, {c.a, 0}, {0, 1, c.a, 1, 0}, {c.a, c.a}} {
			sumsAre(t, w, "m", set, 0, 0, c.err)
		}
	}
	for _, name := range []string{"", "mm", "M", "a", "\xff"} {
		sumsAre(t, w, name, []int{0}, 0, 0, api.ErrNone)
		sumsAre(t, w, name, []int{5, 2}, 0, 0, api.ErrNone)
		sumsAre(t, w, name, []int{2, 5}, 0, 0, api.ErrDown)
		sumsAre(t, w, name, []int{9, 2}, 0, 0, api.ErrNode)
	}
}

// Where several errors stand in the set, the first one in its order is told, whatever kinds they are of.
func TestP22_7SumsOfSeveralErrors(t *testing.T) {
	w := changed(t, several(), "an estimate that is out of its range", func(w *api.World) {
		w.Nodes[0].Chans[0].Input = -most // its half-edge takes 7 from it
		w.Nodes[1].Chans[0].Input = most - 7
	})
	sumsAre(t, w, "m", []int{1}, most, most-7, api.OK)
	errs := map[int]api.Errno{-1: api.ErrNode, 6: api.ErrNode, 2: api.ErrDown, 3: api.ErrNone, 4: api.ErrNone, 5: api.ErrKind, 0: api.ErrRange}
	for a, first := range errs {
		for b, second := range errs {
			for c := range errs {
				sumsAre(t, w, "m", []int{a, b, c}, 0, 0, first)
				sumsAre(t, w, "m", []int{1, 1, a, 1, b, c}, 0, 0, first)
				sumsAre(t, w, "m", []int{1, b, a, c, 1}, 0, 0, second)
			}
		}
	}
}

// Sums leave the range of flows, and no error is told of that.
func TestP22_7GreatSums(t *testing.T) {
	w := plain(16)
	var inputs []int64
	var set []int
	for a := range 16 {
		inputs, set = append(inputs, most), append(set, a)
	}
	all(&w, of("m", api.KMean), inputs...)
	sumsAre(t, w, "m", set[:2], 2*most, 2*most, api.OK)
	sumsAre(t, w, "m", set, 16*most, 16*most, api.OK)
	is(t, w, "Closed", Closed(w, set, "m"), true)
	for a := range 16 {
		w.Nodes[a].Chans[0].Input = -most
	}
	sumsAre(t, w, "m", set, -16*most, -16*most, api.OK)
	many := slices.Repeat([]int{3, 9}, 1<<17)
	sumsAre(t, w, "m", many, -most<<18, -most<<18, api.OK)
	sumsAre(t, w, "m", append(many, 16), 0, 0, api.ErrNode)
	x, y, err := Spread(w, "m")
	is(t, w, "Spread", ended{x, y, err}, ended{-most, -most, api.OK})
	checkedGroups(t, w)
}

func TestP22_8Groups(t *testing.T) {
	links := func(l ...int) []api.Link {
		var edges []api.Link
		for i := 0; i < len(l); i += 2 {
			edges = append(edges, api.Link{A: l[i], B: l[i+1]})
		}
		return edges
	}
	var row, rings []int
	for a := range 15 {
		row = append(row, a, a+1)
		rings = append(rings, a, (a+2)%15)
	}
	for _, c := range []struct {
		n     int
		edges []api.Link
		down  []int
		want  [][]int
	}{
		{n: 1, want: [][]int{{0}}},
		{n: 1, down: []int{0}, want: nil},
		{n: 3, down: []int{0, 1, 2}, want: nil},
		{n: 3, want: [][]int{{0}, {1}, {2}}},
		{n: 3, down: []int{1}, want: [][]int{{0}, {2}}},
		{n: 2, edges: links(0, 1), want: [][]int{{0, 1}}},
		{n: 2, edges: links(0, 1), down: []int{0}, want: [][]int{{1}}},
		{n: 4, edges: links(0, 3, 1, 2), want: [][]int{{0, 3}, {1, 2}}},
		{n: 4, edges: links(1, 3), want: [][]int{{0}, {1, 3}, {2}}},
		{n: 5, edges: links(0, 4, 4, 1, 1, 3, 3, 2), want: [][]int{{0, 1, 2, 3, 4}}},
		{n: 5, edges: links(0, 4, 4, 1, 1, 3, 3, 2), down: []int{1}, want: [][]int{{0, 4}, {2, 3}}},
		{n: 5, edges: links(0, 4, 4, 1, 1, 3, 3, 2), down: []int{4}, want: [][]int{{0}, {1, 2, 3}}},
		{n: 6, edges: links(5, 0, 5, 1, 5, 2, 5, 3, 5, 4), want: [][]int{{0, 1, 2, 3, 4, 5}}},
		{n: 6, edges: links(5, 0, 5, 1, 5, 2, 5, 3, 5, 4), down: []int{5}, want: [][]int{{0}, {1}, {2}, {3}, {4}}},
		{n: 7, edges: links(6, 0, 5, 1, 4, 2, 2, 6, 3, 5), want: [][]int{{0, 2, 4, 6}, {1, 3, 5}}},
		{n: 16, edges: links(row...), want: [][]int{{0, 1, 2, 3, 4, 5, 6, 7, 8, 9, 10, 11, 12, 13, 14, 15}}},
		{n: 16, edges: links(row...), down: []int{0, 7, 8, 11}, want: [][]int{{1, 2, 3, 4, 5, 6}, {9, 10}, {12, 13, 14, 15}}},
		{n: 16, edges: links(rings...), want: [][]int{{0, 1, 2, 3, 4, 5, 6, 7, 8, 9, 10, 11, 12, 13, 14}, {15}}},
		{n: 16, edges: links(15, 0, 14, 1, 13, 2), want: [][]int{{0, 15}, {1, 14}, {2, 13}, {3}, {4}, {5}, {6}, {7}, {8}, {9}, {10}, {11}, {12}}},
	} {
		w := changed(t, joined(c.n, c.edges...), "groups", func(w *api.World) {
			for _, a := range c.down {
				down(w, a)
			}
		})
		is(t, w, "Groups", Groups(w), c.want)
		checkedGroups(t, w)
	}
}

// Half-edges that are not held by both ends join nobody; channels play no part.
func TestP22_8GroupsAreHeld(t *testing.T) {
	turned(t, pair(), kept(), func(what string, w api.World) {
		if g := Groups(w); !slices.ContainsFunc(g, func(g []int) bool { return slices.Contains(g, 1) && slices.Contains(g, 2) }) {
			t.Errorf("%s: %v", what, g)
		}
	})
	turned(t, pair(), parted(), func(what string, w api.World) {
		if g := Groups(w); slices.ContainsFunc(g, func(g []int) bool { return slices.Contains(g, 1) && slices.Contains(g, 2) }) {
			t.Errorf("%s: %v", what, g)
		}
	})
	turned(t, sharing(api.KMean), slices.Concat(uneven(), even(), apart()), func(what string, w api.World) {
		is(t, w, what, Groups(w), [][]int{{0}, {1, 2, 3}, {4}})
	})
}

// The least and the greatest numbers, and signs, among them.
func TestP22_9SpreadAndSquares(t *testing.T) {
	for _, c := range []struct {
		inputs  []int64
		low, up int64
		squares api.Wide
	}{
		{[]int64{0}, 0, 0, api.Wide{}},
		{[]int64{7}, 7, 7, api.Wide{Lo: 49}},
		{[]int64{-7}, -7, -7, api.Wide{Lo: 49}},
		{[]int64{3, -4}, -4, 3, api.Wide{Lo: 25}},
		{[]int64{-4, 3}, -4, 3, api.Wide{Lo: 25}},
		{[]int64{5, 5, 5}, 5, 5, api.Wide{Lo: 75}},
		{[]int64{2, 9, 1, 4}, 1, 9, api.Wide{Lo: 102}},
		{[]int64{-2, -9, -1, -4}, -9, -1, api.Wide{Lo: 102}},
		{[]int64{most}, most, most, api.Wide{Lo: 4611686014132420609}},
		{[]int64{-most}, -most, -most, api.Wide{Lo: 4611686014132420609}},
		{[]int64{0, most, -most, 0}, -most, most, api.Wide{Lo: 9223372028264841218}},
		{slices.Repeat([]int64{most}, 16), most, most, api.Wide{Hi: 3, Lo: 1<<64 - 1<<36 + 16}},
		{slices.Repeat([]int64{-most, most}, 8), -most, most, api.Wide{Hi: 3, Lo: 1<<64 - 1<<36 + 16}},
		{slices.Repeat([]int64{-most}, 5), -most, -most, api.Wide{Hi: 1, Lo: 4611686018427387904 - 21474836480 + 5}},
	} {
		w := plain(len(c.inputs))
		all(&w, of("m", api.KMean), c.inputs...)
		spreads(t, w, "m", c.low, c.up, c.squares, api.OK)
		spreads(t, w, "n", 0, 0, api.Wide{}, api.ErrEmpty)
		checkedGroups(t, w)
	}
}

func spreads(t *testing.T, w api.World, name string, low, high int64, total api.Wide, err api.Errno) {
	t.Helper()
	x, y, e := Spread(w, name)
	is(t, w, "Spread", ended{x, y, e}, ended{low, high, err})
	s, e := Squares(w, name)
	is(t, w, "Squares", ended{s, nil, e}, ended{total, nil, err})
}

// It is the estimates that are told, not the inputs; who has no seat plays no part.
func TestP22_9OfSeats(t *testing.T) {
	w := several()
	w.Nodes[0].Chans[0].Input = 2 // its estimate is -5, that of 1 is 3
	spreads(t, w, "m", -5, 3, api.Wide{Lo: 34}, api.OK)
	down(&w, 0)
	spreads(t, w, "m", 3, 3, api.Wide{Lo: 9}, api.OK)
	down(&w, 1)
	spreads(t, w, "m", 0, 0, api.Wide{}, api.ErrEmpty)
	for _, name := range []string{"", "M", "mm", "\xff"} {
		spreads(t, w, name, 0, 0, api.Wide{}, api.ErrEmpty)
	}
	e := plain(2)
	all(&e, of("e", api.KExt), 4, 5)
	spreads(t, e, "e", 0, 0, api.Wide{}, api.ErrEmpty)
}

// One whose estimate is out of its range, ahead of others, between them, and behind them.
func TestP22_9OutOfRange(t *testing.T) {
	for n := 1; n < 6; n++ {
		for at := range n {
			w := plain(n + 1)
			for a := range n {
				have(&w, a, api.State{Chan: of("m", api.KMean), Has: true, Input: int64(a) - 2})
			}
			join(&w, at, n)
			spreads(t, w, "m", -2, int64(n)-3, squaresFrom(-2, int64(n)-3), api.OK)
			w.Nodes[at].Chans[0].Input = most
			write(&w, at, n, "m", api.Reg{Ver: 1, Writer: n, Flow: -1})
			w = changed(t, w, "out of its range", func(*api.World) {})
			spreads(t, w, "m", 0, 0, api.Wide{}, api.ErrRange)
			is(t, w, "Seats", len(Seats(w, "m")), n)
			checkedGroups(t, w)
		}
	}
}

// squaresFrom is the sum of the squares of numbers in a row.
func squaresFrom(from, to int64) api.Wide {
	total := int64(0)
	for x := from; x <= to; x++ {
		total += x * x
	}
	return api.Wide{Lo: uint64(total)}
}
