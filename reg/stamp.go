package reg

import (
	"cmp"
	"iter"

	"eddy/api"
)

// above tells whether the first of two stamps is greater: by its first part, and where these are alike by its second.
func above[V, W cmp.Ordered](a, b V, c, d W) bool {
	if a != b {
		return a > b
	}
	return c > d
}

// merged hands out, register by register, what a list is merged to so far. It begins with the first one itself: the
// zero register is no part of the list, and some that are not fit are older than it.
func merged(l []api.Reg) iter.Seq[api.Reg] {
	return func(yield func(api.Reg) bool) {
		var most api.Reg
		for i, r := range l {
			if i > 0 {
				r = Merge(most, r)
			}
			most = r
			if !yield(most) {
				return
			}
		}
	}
}
