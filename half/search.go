package half

import (
	"cmp"
	"iter"

	"eddy/api"
)

// named hands out registers with their names, line by line.
func named(l []api.Line) iter.Seq2[string, api.Reg] {
	return func(yield func(string, api.Reg) bool) {
		for _, x := range l {
			if !yield(x.Name, x.Reg) {
				return
			}
		}
	}
}

// toward hands out half-edges with their peers, one by one.
func toward(l []api.Half) iter.Seq2[int, api.Half] {
	return func(yield func(int, api.Half) bool) {
		for _, h := range l {
			if !yield(h.Peer, h) {
				return
			}
		}
	}
}

// place is where a key stands in a rising list, and the place behind it; one place twice, if it does not stand there:
// the one at which it would.
func place[K cmp.Ordered, V any](rising iter.Seq2[K, V], key K) (int, int) {
	at := 0
search:
	for k := range rising {
		switch {
		case k == key:
			return at, at + 1
		case k > key:
			break search
		}
		at++
	}
	return at, at
}
