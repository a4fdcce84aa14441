package calm

import (
	"iter"

	"eddy/api"
	"eddy/world"
)

// How many beats and rounds a call does at most.
const (
	mostBeats  = 4096
	mostRounds = 1000
)

// own is a world in memory of its own: what is no step leaves it as it was.
func own(w api.World) api.World {
	w, _ = world.Do(w, api.Step{})
	return w
}

// beats hands out the beats of an order, each with the world behind it.
func beats(w api.World, order []int) iter.Seq2[api.Beat, api.World] {
	return func(yield func(api.Beat, api.World) bool) {
		w := w
		for _, a := range order[:min(len(order), mostBeats)] {
			var b api.Beat
			w, b = beat(w, a)
			if !yield(b, w) {
				return
			}
		}
	}
}

// beat lets a node tick, and delivers whatever comes of it.
func beat(w api.World, a int) (api.World, api.Beat) {
	w, tick := world.Do(w, api.Step{Kind: api.StTick, A: a})
	if tick.Err != api.OK {
		return w, api.Beat{Node: a, Err: tick.Err}
	}
	w, flush := world.Do(w, api.Step{Kind: api.StFlush})
	return w, api.Beat{Node: a, Events: append(tick.Events, flush.Events...)}
}

// rounds hands out a world, and what it has come to behind each of n rounds, with what was told there.
func rounds(w api.World, n int) iter.Seq2[api.World, []api.Told] {
	return func(yield func(api.World, []api.Told) bool) {
		w := own(w)
		if !yield(w, nil) {
			return
		}
		for range min(n, mostRounds) {
			behind, o := world.Do(w, api.Step{Kind: api.StRound})
			if !yield(behind, o.Events) {
				return
			}
			w = behind
		}
	}
}
