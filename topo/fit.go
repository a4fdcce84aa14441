package topo

import "eddy/api"

// refusal is why a neighbour can't be wanted beside those that are.
func refusal(id int, want []int, v int) api.Errno {
	switch {
	case !isNode(v):
		return api.ErrNode
	case v == id:
		return api.ErrSelf
	case Has(want, v):
		return api.ErrHave
	case len(want) >= api.MaxDegree:
		return api.ErrDegree
	}
	return api.OK
}

func isNode(n int) bool { return n >= 0 && n < api.MaxNodes }

// isPlace tells whether a neighbour stands at a place.
func isPlace(want []int, turn int) bool { return turn >= 0 && turn < len(want) }

// own is a list in memory of its own. (slices.Clone of an empty one would hold on to the room behind it.)
func own(want []int) []int { return append([]int(nil), want...) }
