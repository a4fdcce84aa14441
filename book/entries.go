package book

import (
	"iter"

	"eddy/api"
	"eddy/half"
	"eddy/num"
	"eddy/reg"
)

// entries hands out the peers of the half-edges that have a line of a name, each with what its edge takes from a node.
func entries(id int, halves []api.Half, name string) iter.Seq2[int, int64] {
	return func(yield func(int, int64) bool) {
		for _, h := range halves {
			r := half.Reg(h, name)
			if r == (api.Reg{}) { // no line has the zero register, so there is none of that name
				continue
			}
			if !yield(h.Peer, reg.Out(r, id, h.Peer)) {
				return
			}
		}
	}
}

// sum is a number to begin with and what each entry counts for, together. They are added up all at once, as only what
// comes at the end must be in its range.
func sum(begin int64, entries iter.Seq2[int, int64], counts func(peer int, out int64) int64) (int64, api.Errno) {
	parts := []int64{begin}
	for peer, out := range entries {
		parts = append(parts, counts(peer, out))
	}
	return num.Sum(parts)
}
