package view

import (
	"slices"
	"testing"

	"eddy/api"
	"eddy/world"
)

// moments hands out each world of a run.
func moments(t *testing.T, n int, l []api.Step, do func(w api.World)) {
	t.Helper()
	w, err := world.New(n)
	if err != api.OK {
		t.Fatal(err)
	}
	do(w)
	for _, x := range l {
		w, _ = world.Do(w, x)
		do(w)
	}
}

// subsets are all sets of some of n nodes, and the empty one.
func subsets(n int) [][]int {
	var l [][]int
	for bits := range 1 << n {
		var set []int
		for id := range n {
			if bits>>id&1 == 1 {
				set = append(set, id)
			}
		}
		l = append(l, set)
	}
	return l
}

// conserved is P22.10 of a world.
func conserved(t *testing.T, w api.World, sorts map[string]int) {
	t.Helper()
	for _, set := range subsets(min(len(w.Nodes), 6)) {
		for _, name := range names3() {
			estimates, inputs, err := Sums(w, set, name)
			if !Closed(w, set, name) {
				if err == api.OK && estimates != inputs {
					sorts["not closed: other sums"]++
				}
				continue
			}
			if err == api.OK && estimates != inputs {
				t.Fatalf("%v have %d of %s, and their inputs are %d: %+v", set, estimates, name, inputs, w)
			}
			sorts["closed: "+size(len(set))+", "+err.Error()]++
			if err == api.OK && slices.ContainsFunc(set, func(a int) bool { return len(w.Nodes[a].Halves) > 0 }) && moved(w, set, name) {
				sorts["something went over"]++
			}
		}
	}
}

// moved tells whether an estimate of a set is another number than the input.
func moved(w api.World, set []int, name string) bool {
	return slices.ContainsFunc(Seats(w, name), func(s api.Seat) bool { return slices.Contains(set, s.Node) && s.Estimate != s.Input })
}

// P22.10 (T3), over drawn runs, at every moment.
func TestP22_10Conservation(t *testing.T) {
	d, sorts := newDice(10), map[string]int{}
	for i := range 60 {
		n := 1 + i%5
		moments(t, n, d.script(n, 150), func(w api.World) { conserved(t, w, sorts) })
	}
	enough(t, sorts, 500, "closed: none, error 0", "closed: one, error 0", "closed: two, error 0", "closed: many, error 0", "something went over", "not closed: other sums")
}

// P22.10 in worlds made by hand, in which estimates leave their range too.
func TestP22_10OfWorldsMadeByHand(t *testing.T) {
	d, sorts := newDice(11), map[string]int{}
	for range 8000 {
		conserved(t, d.built(), sorts)
	}
	enough(t, sorts, 50, "closed: two, error 0", "closed: many, error 0", "closed: two, error 10", "closed: many, error 10", "something went over", "not closed: other sums")
}

// either is P22.11 of a world: either way round, and what Edges and Open have to do with Held and Agreed.
func either(t *testing.T, w api.World, sorts map[string]int) {
	t.Helper()
	edges := Edges(w)
	for _, a := range numbers(len(w.Nodes)) {
		for _, b := range numbers(len(w.Nodes)) {
			held := Held(w, a, b)
			if held != Held(w, b, a) || held != slices.Contains(edges, api.Link{A: min(a, b), B: max(a, b)}) {
				t.Fatalf("Held of %d and %d: %t, and %t: %+v", a, b, held, Held(w, b, a), w)
			}
			for _, name := range texts() {
				agreed := Agreed(w, a, b, name)
				if agreed != Agreed(w, b, a, name) || agreed && !held {
					t.Fatalf("Agreed of %d and %d for %s: %t, and %t, Held %t: %+v", a, b, name, agreed, Agreed(w, b, a, name), held, w)
				}
			}
		}
	}
	for _, name := range texts() {
		open := Open(w, name)
		for _, l := range edges {
			how := stands(w, l, name)
			if agreed := Agreed(w, l.A, l.B, name); agreed != (how == "agreed") || slices.Contains(open, l) != (how == "open") {
				t.Fatalf("%v, %s: %s, agreed %t, open %v: %+v", l, name, how, agreed, open, w)
			}
			sorts[how]++
		}
		for _, l := range open {
			if !slices.Contains(edges, l) {
				t.Fatalf("%v is open, and not held: %+v", l, w)
			}
		}
	}
}

// stands is how an edge that is held stands with a channel.
func stands(w api.World, l api.Link, name string) string {
	c, one := Instance(w, l.A, name)
	d, other := Instance(w, l.B, name)
	switch {
	case !one || !other:
		return "no instance"
	case c.Epoch != d.Epoch || c.Maker != d.Maker:
		return "another instance"
	case c.Kind == api.KExt || d.Kind == api.KExt:
		return "no flows"
	case !same(line(w, l.A, l.B, name), line(w, l.B, l.A, name)):
		return "open"
	}
	return "agreed"
}

// line is the register of a half-edge that is there.
func line(w api.World, a, b int, name string) api.Reg {
	for _, l := range at(&w, a, b).Lines {
		if l.Name == name {
			return l.Reg
		}
	}
	return api.Reg{}
}

func TestP22_11EitherWayRound(t *testing.T) {
	d, sorts := newDice(12), map[string]int{}
	for range 800 {
		either(t, d.one(), sorts)
	}
	for i := range 12 {
		n := 2 + i%4
		moments(t, n, d.script(n, 40), func(w api.World) { either(t, w, sorts) })
	}
	enough(t, sorts, 100, "no instance", "another instance", "no flows", "open", "agreed")
}

// grouped is P22.12 of a world.
func grouped(t *testing.T, w api.World, sorts map[string]int) {
	t.Helper()
	groups := Groups(w)
	times := map[int]int{}
	for _, a := range slices.Concat(groups...) {
		times[a]++
	}
	for a := range w.Nodes {
		want := 0
		if w.Up[a] {
			want = 1
		}
		if times[a] != want || len(times) > len(w.Nodes) {
			t.Fatalf("%d stands in %d lists of %v: %+v", a, times[a], groups, w)
		}
	}
	for _, g := range groups {
		for _, name := range names3() {
			if whole := complete(w, g, name); whole && !Closed(w, g, name) {
				t.Fatalf("%v are not closed for %s: %+v", g, name, w)
			} else if whole {
				sorts["closed: "+size(len(g))]++
			} else if Closed(w, g, name) {
				t.Fatalf("%v are closed for %s: %+v", g, name, w)
			} else {
				sorts["not closed: "+size(len(g))]++
			}
		}
	}
}

// complete tells whether all of a group have one instance, with flows, and all of their half-edges are edges that are agreed.
func complete(w api.World, g []int, name string) bool {
	for _, a := range g {
		c, has := Instance(w, a, name)
		d, _ := Instance(w, g[0], name)
		if !has || c.Epoch != d.Epoch || c.Maker != d.Maker || c.Kind == api.KExt {
			return false
		}
		for _, h := range w.Nodes[a].Halves {
			if !Held(w, a, h.Peer) || !Agreed(w, a, h.Peer, name) {
				return false
			}
		}
	}
	return true
}

func TestP22_12Groups(t *testing.T) {
	d, sorts := newDice(13), map[string]int{}
	for range 2000 {
		grouped(t, d.one(), sorts)
	}
	for i := range 40 {
		n := 1 + i%6
		moments(t, n, d.script(n, 60), func(w api.World) { grouped(t, w, sorts) })
	}
	enough(t, sorts, 200, "closed: one", "closed: two", "closed: many", "not closed: one", "not closed: two", "not closed: many")
}
