package plan

import (
	"cmp"
	"iter"

	"eddy/api"
)

// few tells whether so many nodes may be in a network.
func few(n int) bool { return 1 <= n && n <= api.MaxNodes }

// order is that of pairs: by A, then by B.
func order(p, q api.Link) int { return cmp.Or(cmp.Compare(p.A, q.A), cmp.Compare(p.B, q.B)) }

// rises tells whether pairs are of nodes, the lesser one first, and rise.
func rises(n int, l []api.Link) bool {
	for i, p := range l {
		if p.A < 0 || p.A >= p.B || p.B >= n {
			return false
		}
		if i > 0 && order(l[i-1], p) >= 0 {
			return false
		}
	}
	return true
}

// crowded tells whether a node is in more pairs than it may be.
func crowded(n int, l []api.Link) bool {
	for v := range n {
		if Degree(l, v) > api.MaxDegree {
			return true
		}
	}
	return false
}

// neighbours hands out who is in a pair with a node, in the order of the pairs.
func neighbours(l []api.Link, v int) iter.Seq[int] {
	return func(yield func(int) bool) {
		for _, p := range l {
			if p.A == v && !yield(p.B) || p.B == v && !yield(p.A) {
				return
			}
		}
	}
}

// reached tells whether a node at such a distance is reached.
func reached(far int) bool { return far >= 0 }

// reach tells how far nodes are, ring by ring from those that are reached, till nobody stands in the next one.
func reach(l []api.Link, far []int) {
	for ring, further := 0, true; further; ring++ {
		further = false
	nodes:
		for v := range far {
			if reached(far[v]) {
				continue
			}
			for u := range neighbours(l, v) {
				if far[u] == ring {
					far[v], further = ring+1, true
					continue nodes // by whomever it is reached, it is so once
				}
			}
		}
	}
}
