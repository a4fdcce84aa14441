package topo

import "iter"

// mostTurns is how many turns one call tells.
const mostTurns = 100000

// turns hands out whose turn it is, counted from 1 on, without an end: whoever has enough leaves. There are none where
// nobody is wanted.
func turns(want []int, turn int) iter.Seq2[int, int] {
	return func(yield func(count, v int) bool) {
		place := turn
		for count := 1; ; count++ {
			v, behind, ok := Next(want, place)
			if !ok || !yield(count, v) {
				return
			}
			place = behind
		}
	}
}
