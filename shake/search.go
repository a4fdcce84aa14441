package shake

import (
	"iter"
	"slices"

	"eddy/api"
)

// noted hands out the incarnations that were seen, each with the node's own life towards that peer.
func noted(l []api.Seen) iter.Seq2[incarnation, int64] {
	return func(yield func(incarnation, int64) bool) {
		for _, s := range l {
			if !yield(latest(s), s.Mine) {
				return
			}
		}
	}
}

// place is where a peer's entry stands, and the place behind it; one place twice, if there is none: the one at which it
// would stand.
func place(l []api.Seen, peer int) (int, int) {
	at := 0
	for i := range noted(l) {
		if i.node == peer {
			return at, at + 1
		}
		if i.node > peer { // peers rise: it does not come any more
			break
		}
		at++
	}
	return at, at
}

// put puts an entry in the place of the one of its peer, or among the others.
func put(l []api.Seen, s api.Seen) []api.Seen {
	from, to := place(l, s.Peer)
	return slices.Concat(l[:from], []api.Seen{s}, l[to:])
}

// own is a list in memory of its own. (slices.Clone of an empty one would hold on to the room behind it.)
func own(l []api.Seen) []api.Seen { return append([]api.Seen(nil), l...) }
