package bag

import (
	"cmp"

	"eddy/api"
)

// lastNumber is the greatest number that a packet may have.
const lastNumber int64 = 1 << 62

// pair is two nodes in whatever order.
func pair(a, b int) api.Link { return api.Link{A: min(a, b), B: max(a, b)} }

// byNodes says which of two pairs stands ahead.
func byNodes(p, q api.Link) int {
	return cmp.Or(cmp.Compare(p.A, q.A), cmp.Compare(p.B, q.B))
}

// fit tells whether a state is one.
func fit(st api.Mail) bool {
	if st.Next < 0 || st.Next > lastNumber {
		return false
	}
	return len(st.List) <= api.MaxBag && rising(st.List, st.Next) && pairs(st.Severed)
}

// rising tells whether packets have Numbers from 1 to next that rise.
func rising(l []api.Datagram, next int64) bool {
	last := int64(0)
	for _, d := range l {
		if d.Number <= last {
			return false
		}
		last = d.Number
	}
	return last <= next
}

// pairs tells whether these are pairs of unlike nodes, the lesser one first, that rise.
func pairs(l []api.Link) bool {
	for i, p := range l {
		if p.A >= p.B {
			return false
		}
		if i > 0 && byNodes(l[i-1], p) >= 0 {
			return false
		}
	}
	return true
}
