package view

import (
	"slices"

	"eddy/api"
)

// search is a search for groups: by which edges, and who was reached.
type search struct {
	edges   []api.Link
	reached []bool
}

// group is a node that was not reached, and all to whom edges lead from there: ring by ring.
func (s search) group(from int) []int {
	var group []int
	s.reached[from] = true
	for ring := []int{from}; len(ring) > 0; ring = s.beyond(ring) {
		group = append(group, ring...)
	}
	slices.Sort(group)
	return group
}

// beyond is the ring behind another one: who is next to that and was not reached ahead.
func (s search) beyond(ring []int) []int {
	var next []int
edges:
	for _, e := range s.edges {
		for _, a := range ring {
			b, leads := across(e, a)
			if leads && !s.reached[b] {
				s.reached[b] = true
				next = append(next, b)
				continue edges // an edge leads to one node, whoever else of the ring stands at it
			}
		}
	}
	return next
}

// across is where an edge leads from a node; false: the node is no end of it.
func across(e api.Link, a int) (int, bool) {
	switch a {
	case e.A:
		return e.B, true
	case e.B:
		return e.A, true
	}
	return 0, false
}

// once tells whether a set has nodes alone, and none of them twice.
func once(w api.World, set []int) bool {
	in := make([]bool, len(w.Nodes))
	for _, a := range set {
		if !has(w, a) || in[a] {
			return false
		}
		in[a] = true
	}
	return true
}

// inside tells whether each half-edge of each node of a set leads to one of them, and is agreed.
func inside(w api.World, set []int, name string) bool {
	for _, a := range set {
		for _, h := range w.Nodes[a].Halves {
			if !slices.Contains(set, h.Peer) || !Agreed(w, a, h.Peer, name) {
				return false
			}
		}
	}
	return true
}
