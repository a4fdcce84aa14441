package trade

import (
	"iter"

	"eddy/api"
	"eddy/num"
)

// mostAsks is how often the ends of an edge ask each other in one play.
const mostAsks = 100

// end is a node at an edge, with its rest towards the other one.
type end struct {
	node int
	rest int64
}

// turns hands out who is asked and who asks, so many times: a asks b, then b asks a, and so on.
func turns(a, b end, n int) iter.Seq2[end, end] {
	return func(yield func(asked, asker end) bool) {
		asked, asker := b, a
		for range min(n, mostAsks) {
			if !yield(asked, asker) {
				return
			}
			asked, asker = asker, asked
		}
	}
}

// squares is the sum of the squares of the estimates at an edge of which Ends has said that they fit.
func squares(me, peer int, r api.Reg, rest, told int64) api.Wide {
	mine, theirs, _ := Ends(me, peer, r, rest, told)
	return num.Squares([]int64{mine, theirs})
}
