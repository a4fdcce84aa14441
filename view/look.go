package view

import (
	"iter"

	"eddy/api"
	"eddy/chans"
	"eddy/half"
	"eddy/node"
	"eddy/reg"
	"eddy/shake"
)

// has tells whether a number is that of a node.
func has(w api.World, a int) bool { return 0 <= a && a < len(w.Nodes) }

// up tells whether a number is that of a node that is up. (Both lists are asked, as those of a world that is not fit may
// differ.)
func up(w api.World, a int) bool { return has(w, a) && a < len(w.Up) && w.Up[a] }

// awake hands out the nodes that are up, in rising order.
func awake(w api.World) iter.Seq[int] {
	return func(yield func(int) bool) {
		for a := range w.Nodes {
			if up(w, a) && !yield(a) {
				return
			}
		}
	}
}

// names tells whether a node has a half-edge to another one that names its incarnation as it is.
func names(w api.World, a, b int) bool {
	h, is := half.Find(w.Nodes[a].Halves, b)
	return is && h.Boot == w.Nodes[b].Boot && h.Life == shake.Get(w.Nodes[b].Seen, a).Mine
}

// edges hands out the edges that are held by both ends, in rising order, as half-edges rise by their peers.
func edges(w api.World) iter.Seq2[int, int] {
	return func(yield func(a, b int) bool) {
		for a := range awake(w) {
			for _, h := range w.Nodes[a].Halves {
				if a < h.Peer && Held(w, a, h.Peer) && !yield(a, h.Peer) {
					return
				}
			}
		}
	}
}

// those are the edges of which a question is answered by yes.
func those(w api.World, ask func(a, b int) bool) []api.Link {
	var l []api.Link
	for a, b := range edges(w) {
		if ask(a, b) {
			l = append(l, api.Link{A: a, B: b})
		}
	}
	return l
}

// state is the state of a channel that is alive at a node that is up.
func state(w api.World, a int, name string) (api.State, bool) {
	if !up(w, a) {
		return api.State{}, false
	}
	return chans.Find(w.Nodes[a].Chans, name)
}

// together tells whether two nodes have one instance of a channel, of kinds with flows.
func together(w api.World, a, b int, name string) bool {
	c, one := Instance(w, a, name)
	d, other := Instance(w, b, name)
	return one && other && c.Epoch == d.Epoch && c.Maker == d.Maker && chans.Flows(c.Kind) && chans.Flows(d.Kind)
}

// alike tells whether all of some nodes have one instance of a channel, of kinds with flows.
func alike(w api.World, set []int, name string) bool {
	for _, a := range set {
		if !together(w, set[0], a, name) {
			return false
		}
	}
	return true
}

// level tells whether both half-edges of an edge have one register for a channel.
func level(w api.World, a, b int, name string) bool {
	return reg.Agree(register(w, a, b, name), register(w, b, a, name))
}

// register is that of a node's half-edge to another one.
func register(w api.World, a, b int, name string) api.Reg {
	h, _ := half.Find(w.Nodes[a].Halves, b)
	return half.Reg(h, name)
}

// seat is what is seen of a channel at a node; its Err is the first thing that stands against that.
func seat(w api.World, a int, name string) api.Seat {
	switch {
	case !has(w, a):
		return api.Seat{Err: api.ErrNode}
	case !up(w, a):
		return api.Seat{Err: api.ErrDown}
	}
	s, _ := state(w, a, name)
	x, err := node.Estimate(w.Nodes[a], name)
	return api.Seat{Node: a, Input: s.Input, Estimate: x, Err: err}
}

// estimates are those of all seats.
func estimates(w api.World, name string) ([]int64, api.Errno) {
	seats := Seats(w, name)
	if len(seats) == 0 {
		return nil, api.ErrEmpty
	}
	var l []int64
	for _, s := range seats {
		if s.Err != api.OK {
			return nil, s.Err
		}
		l = append(l, s.Estimate)
	}
	return l, api.OK
}
