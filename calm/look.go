package calm

import (
	"iter"
	"slices"

	"eddy/api"
	"eddy/view"
)

// awake hands out the nodes that are up, with their numbers. (Both lists are asked, as those of a world that is not fit may
// differ.)
func awake(w api.World) iter.Seq2[int, api.Node] {
	return func(yield func(int, api.Node) bool) {
		for a, st := range w.Nodes {
			if a < len(w.Up) && w.Up[a] && !yield(a, st) {
				return
			}
		}
	}
}

// held tells whether each half-edge is an end of an edge that is held by both.
func held(w api.World) bool {
	for a, st := range awake(w) {
		for _, h := range st.Halves {
			if !view.Held(w, a, h.Peer) {
				return false
			}
		}
	}
	return true
}

// agreed tells whether no edge is open. (It could be so only for a name that its ends have.)
func agreed(w api.World) bool {
	var names []string
	for _, st := range awake(w) {
		for _, s := range st.Chans {
			if slices.Contains(names, s.Chan.Name) {
				continue
			}
			names = append(names, s.Chan.Name)
			if len(view.Open(w, s.Chan.Name)) > 0 {
				return false
			}
		}
	}
	return true
}

// upsets tells whether a run is not calm any more behind an event.
func upsets(e api.Event) bool {
	return e.Kind == api.EvRange || e.Kind == api.EvLearned || e.Kind == api.EvDropped
}

// seat is that of a node; false: it has none.
func seat(l []api.Seat, a int) (api.Seat, bool) {
	for _, s := range l {
		if s.Node == a {
			return s, true
		}
	}
	return api.Seat{}, false
}

// near tells whether two estimates are as near as a balance leaves them.
func near(a, b api.Seat) bool {
	far := a.Estimate - b.Estimate
	return a.Err == api.OK && b.Err == api.OK && -1 <= far && far <= 1
}
