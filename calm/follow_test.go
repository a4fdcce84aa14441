package calm

import (
	"math/big"
	"slices"
	"testing"

	"eddy/api"
	"eddy/world"
)

// spread is the least and the greatest of all estimates.
func spread(w api.World, name string) (int64, int64) {
	s := lookAt(w)
	var l []int64
	for a := range s.boots {
		if x, is := s.estimate(a, name); is {
			l = append(l, x)
		}
	}
	return slices.Min(l), slices.Max(l)
}

// calmer is P24.7 of a beat of a node that asked another one, for a channel.
func calmer(t *testing.T, was, w api.World, a, peer int, name string, sorts map[string]int) {
	t.Helper()
	s := lookAt(w)
	x, _ := s.estimate(a, name)
	if s.held(a, peer) {
		if y, _ := s.estimate(peer, name); max(x, y)-min(x, y) > 1 {
			t.Fatalf("%d and %d have %d and %d of %s: %+v, was %+v", a, peer, x, y, name, w, was)
		}
		sorts["asked over an edge"]++
	}
	least, greatest := spread(was, name)
	low, high := spread(w, name)
	if low < least || high > greatest {
		t.Fatalf("from %d to %d of %s, was from %d to %d: %+v, was %+v", low, high, name, least, greatest, w, was)
	}
	before, moved := lookAt(was), false
	for id := range s.boots {
		x, _ := before.estimate(id, name)
		y, _ := s.estimate(id, name)
		moved = moved || x != y
	}
	gain := before.squares(name)
	gain.Sub(gain, s.squares(name))
	if moved && gain.Cmp(big.NewInt(2)) < 0 || !moved && gain.Sign() != 0 {
		t.Fatalf("the squares of %s are lower by %v, moved %t: %+v, was %+v", name, gain, moved, w, was)
	}
	sorts[word(moved, "moved", "not moved")]++
	sorts[word(moved && gain.Cmp(big.NewInt(2)) == 0, "lower by 2", "")]++
	sorts[word(moved && (high < greatest || low > least), "less spread", "")]++
	sorts[word(least < -most || greatest > most, "somebody is out of range", "")]++
}

// asked is the neighbour whose turn it is.
func asked(st api.Node) int { return st.Want[st.Turn] }

// other is a world that is ready, as it is still when inputs are others, or two nodes have left each other and meet again.
func (d dice) other(w api.World) api.World {
	w = d.fed(w)
	a, b := d.Intn(len(w.Nodes)), d.Intn(len(w.Nodes))
	for _, x := range []api.Step{{Kind: api.StUnlink, A: a, B: b}, flush(), link(a, b), link(b, a)} {
		w, _ = world.Do(w, x)
	}
	return w
}

// P24.7 (T5): beats of drawn worlds that are ready, as long as they are calm.
func TestP24_7Calm(t *testing.T) {
	d, sorts := newDice(7), map[string]int{}
	for range 400 {
		w := d.rested()
		if !Ready(w) || !slices.Contains(w.Up, true) {
			sorts["not ready"]++
			continue
		}
		for range 12 * len(w.Nodes) {
			a := d.Intn(len(w.Nodes))
			if !w.Up[a] {
				continue
			}
			behind, l := Serial(w, []int{a})
			if !Calm(l) || behind.Lost != w.Lost || len(behind.Mail.List) > 0 {
				sorts["not calm"]++
				break
			}
			if !Ready(behind) {
				t.Fatalf("not ready any more: %+v, was %+v", behind, w)
			}
			for _, name := range names3() {
				if lookAt(w).everywhere(name) && len(w.Nodes[a].Want) > 0 {
					calmer(t, w, behind, a, asked(w.Nodes[a]), name, sorts)
				}
			}
			sorts[word(slices.ContainsFunc(l[0].Events, func(e api.Told) bool { return e.Event.Kind == api.EvHeld }), "held anew", "")]++
			sorts["calm"]++
			if w = behind; d.often(1, 5) {
				w = d.other(w)
				is(t, w, "Ready", Ready(w), true)
			}
		}
	}
	enough(t, sorts, 30, "not ready", "not calm", "calm", "held anew", "asked over an edge", "moved", "not moved", "lower by 2", "less spread")
}

// An edge that is held anew within the beat is balanced too.
func TestP24_7HeldAnew(t *testing.T) {
	for ahead := range 3 {
		w := run(t, 2, link(0, 1), creating(0, "m", api.KMean), creating(1, "m", api.KMean), setting(0, "m", 11), setting(1, "m", 2), link(1, 0))
		record(&w, 1, "m").Maker = 0 // one instance at both, though they never met
		is(t, w, "Ready", Ready(w) && world.Fit(w), true)
		w, _ = Serial(w, make([]int, ahead))
		behind, l := Serial(w, []int{0})
		is(t, w, "Calm", Calm(l), true)
		calmer(t, w, behind, 0, 1, "m", map[string]int{})
		is(t, w, "Settled", Settled(behind, "m"), true)
		is(t, w, "Ready", Ready(behind), true)
	}
}

func TestP24_8TwoPieces(t *testing.T) {
	d := newDice(8)
	for i := range 150 {
		w := d.one()
		if i%2 == 0 {
			w = d.rested()
		}
		order := append(d.order(len(w.Nodes)), d.order(len(w.Nodes))...)
		x, l := Serial(w, order)
		for cut := range len(order) + 1 {
			y, k := Serial(w, order[:cut])
			y, k2 := Serial(y, order[cut:])
			is(t, w, "Serial in two pieces", ended{y, append(k, k2...), nil}, ended{x, l, nil})
		}
		n := d.Intn(9)
		x, events := Rounds(w, n)
		for cut := range n + 1 {
			y, k := Rounds(w, cut)
			y, k2 := Rounds(y, n-cut)
			is(t, w, "Rounds in two pieces", ended{y, append(k, k2...), nil}, ended{x, events, nil})
		}
	}
}

// Number by number it is the same as in one piece.
func TestP24_8ManyPieces(t *testing.T) {
	d := newDice(11)
	for range 100 {
		w := d.rested()
		order := append(d.order(len(w.Nodes)), d.order(len(w.Nodes))...)
		x, l := Serial(w, order)
		var pieces []api.Beat
		for _, a := range order {
			var b []api.Beat
			w, b = Serial(w, []int{a})
			pieces = append(pieces, b...)
		}
		is(t, w, "Serial number by number", ended{w, pieces, nil}, ended{x, l, nil})
		y, told := Rounds(x, 5)
		var events []api.Told
		for range 5 {
			var e []api.Told
			x, e = Rounds(x, 1)
			events = append(events, e...)
		}
		is(t, w, "Rounds one by one", ended{x, events, nil}, ended{y, told, nil})
	}
}

// dropped is P24.9 of a world: how many edges are held.
func dropped(t *testing.T, w api.World) int {
	t.Helper()
	edges, s := 0, lookAt(w)
	for way := range s.named {
		if !w.Up[way.to] {
			t.Fatalf("%d holds a half-edge to %d, which is down: %+v", way.from, way.to, w)
		}
	}
	for a := range s.boots {
		for b := range s.boots {
			if a < b && slices.Contains(w.Nodes[a].Want, b) && slices.Contains(w.Nodes[b].Want, a) {
				if edges++; !s.held(a, b) {
					t.Fatalf("%d and %d want each other, and do not hold their edge: %+v", a, b, w)
				}
			}
		}
	}
	return edges
}

// P24.9 (T7): the dead are dropped, behind DropRounds rounds, whatever was ahead of them.
func TestP24_9TheDeadAreDropped(t *testing.T) {
	d, sorts := newDice(9), map[string]int{}
	for range 250 {
		w := d.ran()
		for _, l := range w.Mail.Severed {
			w, _ = world.Do(w, mending(l.A, l.B))
		}
		for id := range w.Nodes {
			if d.often(1, 4) {
				w, _ = world.Do(w, crash(id))
			}
		}
		for way := range lookAt(w).named {
			sorts[word(w.Up[way.to], "a half-edge to one that is up", "a half-edge to one that is down")]++
		}
		x, events := Rounds(w, api.DropRounds)
		if x.Lost != w.Lost {
			sorts["something is lost"]++
			continue
		}
		sorts["an edge that is held"] += dropped(t, x)
		for _, e := range events {
			sorts[word(e.Event.Kind == api.EvDropped, "a drop", "")]++
		}
	}
	enough(t, sorts, 50, "a half-edge to one that is down", "a half-edge to one that is up", "an edge that is held", "a drop")
}

// Where two are severed, or a round is missing, it need not be so.
func TestP24_9NotEarlier(t *testing.T) {
	w := run(t, 2, append(first(), crash(1))...)
	x, _ := Rounds(w, 3)
	is(t, w, "half-edges behind three rounds", len(x.Nodes[0].Halves), 1)
	x, _ = Rounds(x, api.DropRounds-3)
	is(t, w, "edges", dropped(t, x), 0)
}

// Behind Settle it is so, and it was not so behind fewer rounds; Settle is Rounds.
func TestSettleIsRounds(t *testing.T) {
	d, sorts := newDice(10), map[string]int{}
	for range 200 {
		w, name := d.rested(), pick(d, names3())
		x, n, so := Settle(w, name, 12)
		for k := range n + 1 {
			y, _ := Rounds(w, k)
			is(t, w, "whether it is so", Settled(y, name) && !lookAt(y).somewhere(name), k == n && so)
			if k == n {
				is(t, w, "the world", y, x)
			}
		}
		sorts[word(so, word(n > 0, "settles", "at once"), "not in 12 rounds")]++
	}
	enough(t, sorts, 10, "settles", "at once", "not in 12 rounds")
}
