package view

import (
	"slices"
	"testing"

	"eddy/api"
)

func TestExample1(t *testing.T) {
	w := run(t, 2, shared()...)
	if !Held(w, 0, 1) || !Agreed(w, 0, 1, "m") {
		t.Error("the edge is not agreed")
	}
	if c, has := Instance(w, 0, "m"); !has || c != (api.Chan{Name: "m", Epoch: 1, Maker: 0, Alive: true, Kind: api.KMean, Scale: 1}) {
		t.Errorf("the instance: %+v, %t", c, has)
	}
	is(t, w, "Edges", Edges(w), []api.Link{{A: 0, B: 1}})
	is(t, w, "Open", Open(w, "m"), []api.Link{})
	is(t, w, "Seats", Seats(w, "m"), []api.Seat{{Node: 0, Input: 10, Estimate: 5}, {Node: 1, Input: 0, Estimate: 5}})
	is(t, w, "Everywhere", Everywhere(w, "m"), true)
	is(t, w, "Closed of both", Closed(w, []int{1, 0}, "m"), true)
	is(t, w, "Closed of one", Closed(w, []int{0}, "m"), false)
	x, y, err := Sums(w, []int{1, 0}, "m")
	is(t, w, "Sums", ended{x, y, err}, ended{int64(10), int64(10), api.OK})
	is(t, w, "Groups", Groups(w), [][]int{{0, 1}})
	x, y, err = Spread(w, "m")
	is(t, w, "Spread", ended{x, y, err}, ended{int64(5), int64(5), api.OK})
	s, err := Squares(w, "m")
	is(t, w, "Squares", ended{s, nil, err}, ended{api.Wide{Hi: 0, Lo: 50}, nil, api.OK})
}

func TestExample2(t *testing.T) {
	w := run(t, 2, append(shared(), crash(1))...)
	is(t, w, "Held", Held(w, 0, 1), false)
	is(t, w, "Closed", Closed(w, []int{0}, "m"), false)
	is(t, w, "Groups", Groups(w), [][]int{{0}})
	if len(w.Nodes[0].Halves) != 1 || len(Edges(w)) != 0 {
		t.Errorf("the half-edge to 1: %+v", w.Nodes[0])
	}
}

// All answers, in worlds made by hand and in those of runs, by the words.
func TestByTheWords(t *testing.T) {
	d, sorts := newDice(1), map[string]int{}
	for range 3000 {
		w := d.one()
		check(t, w, sorts, nil, d.set(w), d.set(w), d.set(w))
	}
	enough(t, sorts, 50, "held", "a half-edge, not held", "edges: none", "edges: one", "edges: two", "edges: many",
		"open: none", "open: one", "open: two", "open: many", "group of one", "group of two", "group of many", "everywhere",
		"seats: error 0", "seats: error 10", "seats: error 50",
		"sums: error 0", "sums: error 10", "sums: error 40", "sums: error 44", "sums: error 46", "sums: error 51",
		"closed: none", "closed: one", "closed: two", "closed: many")
}

// One moment behind the other of runs with all sorts of faults, by the words.
func TestRunsByTheWords(t *testing.T) {
	d, sorts := newDice(2), map[string]int{}
	for i := range 60 {
		n := 1 + i%6
		moments(t, n, d.script(n, 60), func(w api.World) {
			check(t, w, sorts, d.set(w), d.set(w))
		})
	}
	enough(t, sorts, 50, "held", "a half-edge, not held", "edges: none", "edges: one", "edges: two", "edges: many", "open: none", "open: one",
		"group of one", "group of two", "group of many", "everywhere", "sums: error 0", "sums: error 40", "sums: error 44", "sums: error 46", "sums: error 51",
		"closed: none", "closed: one", "closed: two", "closed: many")
}

// The limits that the words name are those of the document.
func TestLimits(t *testing.T) {
	if api.MaxFlow != most || api.MaxNodes != 16 || api.MaxDegree != 6 {
		t.Error("the limits are others than the document's")
	}
	if !slices.Equal([]int{api.KMean, api.KCount, api.KSquare, api.KExt}, []int{1, 2, 3, 4}) {
		t.Error("the kinds are others than the document's")
	}
	if !slices.Equal([]api.Errno{api.ErrRange, api.ErrNode, api.ErrNone, api.ErrKind, api.ErrEmpty, api.ErrDown}, []api.Errno{10, 40, 44, 46, 50, 51}) {
		t.Error("the errors are others than the document's")
	}
}
