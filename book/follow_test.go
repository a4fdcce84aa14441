package book

import (
	"math/big"
	"slices"
	"testing"

	"eddy/api"
	"eddy/half"
	"eddy/num"
)

func TestP11_6RestLessBackIsEstimate(t *testing.T) {
	d, held := newDice(116), 0
	for range 20000 {
		id := d.Intn(api.MaxNodes)
		input, l, name := d.number(), d.halves(id), d.name()
		for peer := -1; peer <= api.MaxNodes; peer++ {
			rest, e := Rest(id, input, l, name, peer)
			back, f := Back(id, l, name, peer)
			if e != api.OK || f != api.OK {
				continue
			}
			held++
			if got, want := told(Estimate(id, input, l, name)), told(num.Sub(rest, back)); got != want {
				t.Fatalf("node %d, input %d, %+v, %q: rest %d, back %d towards %d, estimate %v", id, input, l, name, rest, back, peer, got)
			}
		}
	}
	if held < 10000 {
		t.Errorf("only %d times both were in range", held)
	}
}

// What a half-edge took is the node's again when it is dropped: the estimate is what was the rest towards its peer, and is
// more by what Back told. When all are dropped, it is the input.
func TestP11_6WhatWasTakenComesBack(t *testing.T) {
	d := newDice(1162)
	for range 5000 {
		id := d.Intn(api.MaxNodes)
		input, l, name := d.number(), d.halves(id), d.name()
		for len(l) > 0 {
			peer := l[d.Intn(len(l))].Peer
			was, e := Estimate(id, input, l, name)
			rest := told(Rest(id, input, l, name, peer))
			back, f := Back(id, l, name, peer)
			left, ok := half.Drop(l, peer)
			if !ok {
				t.Fatalf("no half-edge to %d", peer)
			}
			now := told(Estimate(id, input, left, name))
			if now != rest {
				t.Fatalf("without %d of %+v: %v, the rest was %v", peer, l, now, rest)
			}
			if e == api.OK && (f != api.OK || now != told(num.Add(was, back))) {
				t.Fatalf("without %d of %+v: %v, was %d, back came %d", peer, l, now, was, back)
			}
			l = left
		}
		if got := told(Estimate(id, input, l, name)); got != (answer{input, api.OK}) {
			t.Fatalf("without half-edges: %v of %d", got, input)
		}
	}
}

func TestP11_7WhatOneTakesTheOtherGives(t *testing.T) {
	for a := range api.MaxNodes {
		for _, b := range others(a) {
			for _, flow := range []int64{-most, -77, -1, 0, 1, 77, most} {
				for _, writer := range []int{a, b} {
					x := line("m", register(3, writer, flow))
					atA, atB := Page(a, []api.Half{to(b, x)}, "m"), Page(b, []api.Half{to(a, x)}, "m")
					if len(atA) != 1 || len(atB) != 1 || atA[0].Out != -atB[0].Out {
						t.Fatalf("flow %d, by %d: at %d %v, at %d %v", flow, writer, a, atA, b, atB)
					}
					took, e := Back(a, []api.Half{to(b, x)}, "m", b)
					gave, f := Back(b, []api.Half{to(a, x)}, "m", a)
					if took != -gave || e != api.OK || f != api.OK {
						t.Fatalf("flow %d, by %d: %d from %d, %d from %d", flow, writer, took, a, gave, b)
					}
				}
			}
		}
	}
}

// network is the half-edges of some nodes, each edge among which has one register of a name at both ends, or none.
func (d dice) network(flow func() int64) [][]api.Half {
	all := make([][]api.Half, 2+d.Intn(api.MaxNodes-1))
	for a := range all {
		for b := range a {
			if d.Intn(2) == 0 {
				continue
			}
			var l []api.Line
			for _, name := range []string{"l", "m"} {
				if d.Intn(4) > 0 {
					l = append(l, line(name, register(1+d.Int63n(9), []int{a, b}[d.Intn(2)], flow())))
				}
			}
			all[a] = half.Put(all[a], to(b, l...))
			all[b] = half.Put(all[b], to(a, l...))
		}
	}
	return all
}

func TestP11_7NothingIsMade(t *testing.T) {
	d := newDice(117)
	for range 3000 {
		all := d.network(func() int64 { return d.Int63n(2000001) - 1000000 })
		inputs, estimates := int64(0), int64(0)
		for id, l := range all {
			input := d.Int63n(2000001) - 1000000
			x, e := Estimate(id, input, l, "m")
			if e != api.OK {
				t.Fatalf("node %d: %v", id, e)
			}
			inputs, estimates = inputs+input, estimates+x
		}
		if inputs != estimates {
			t.Fatalf("%+v: the inputs are %d, the estimates %d", all, inputs, estimates)
		}
	}
}

// At the range's edges as well: where all estimates are in it their sum is that of the inputs; and all entries together are
// nothing, whatever leaves the range.
func TestP11_7NothingIsMadeAtTheRange(t *testing.T) {
	d, held := newDice(1172), 0
	for range 20000 {
		all := d.network(d.number)
		inputs, estimates, taken := new(big.Int), new(big.Int), new(big.Int)
		inRange := true
		for id, l := range all {
			input := d.number()
			x, e := Estimate(id, input, l, "m")
			inRange = inRange && e == api.OK
			inputs.Add(inputs, big.NewInt(input))
			estimates.Add(estimates, big.NewInt(x))
			for _, y := range Page(id, l, "m") {
				taken.Add(taken, big.NewInt(y.Out))
			}
		}
		if taken.Sign() != 0 {
			t.Fatalf("%+v: taken are %v", all, taken)
		}
		if !inRange {
			continue
		}
		held++
		if inputs.Cmp(estimates) != 0 {
			t.Fatalf("%+v: the inputs are %v, the estimates %v", all, inputs, estimates)
		}
	}
	if held < 500 {
		t.Errorf("only %d times all estimates were in range", held)
	}
}

// orders hands out all orders of half-edges.
func orders(l []api.Half) func(yield func([]api.Half) bool) {
	return func(yield func([]api.Half) bool) {
		if len(l) == 0 {
			yield(nil)
			return
		}
		for i := range l {
			rest := append(slices.Clone(l[:i]), l[i+1:]...)
			for behind := range orders(rest) {
				if !yield(append([]api.Half{l[i]}, behind...)) {
					return
				}
			}
		}
	}
}

// inEachOrder holds the calls over half-edges in another order to what they answer in the rising one, and Page to its own.
func inEachOrder(t *testing.T, id int, input int64, rising, other []api.Half) {
	t.Helper()
	if got, want := Page(id, other, "m"), sayPage(id, other, "m"); !slices.Equal(got, want) {
		t.Fatalf("Page of %+v: %v, want %v", other, got, want)
	}
	if got, want := told(Taken(id, other, "m")), told(Taken(id, rising, "m")); got != want {
		t.Fatalf("Taken of %+v: %v, want %v", other, got, want)
	}
	if got, want := told(Estimate(id, input, other, "m")), told(Estimate(id, input, rising, "m")); got != want {
		t.Fatalf("Estimate of %+v: %v, want %v", other, got, want)
	}
	for peer := -1; peer <= api.MaxNodes; peer++ {
		if got, want := told(Rest(id, input, other, "m", peer)), told(Rest(id, input, rising, "m", peer)); got != want {
			t.Fatalf("Rest towards %d of %+v: %v, want %v", peer, other, got, want)
		}
		if got, want := told(Back(id, other, "m", peer)), told(Back(id, rising, "m", peer)); got != want {
			t.Fatalf("Back %d of %+v: %v, want %v", peer, other, got, want)
		}
	}
}

func TestP11_8OrderPlaysNoPart(t *testing.T) {
	rising := append(takings(2, most, -most, 12, most), to(5), to(6, line("n", register(1, 6, 4))))
	for other := range orders(rising) {
		for _, input := range []int64{-most, 0, 12, most} {
			inEachOrder(t, 2, input, rising, other)
		}
	}
}

func TestP11_8OrderOfManyPlaysNoPart(t *testing.T) {
	d := newDice(118)
	for range 5000 {
		id := d.Intn(api.MaxNodes)
		rising := d.halves(id)
		other := slices.Clone(rising)
		d.Shuffle(len(other), func(i, j int) { other[i], other[j] = other[j], other[i] })
		inEachOrder(t, id, d.number(), rising, other)
	}
}

// The first example, the other way round.
func TestP11_8ExampleTurnedRound(t *testing.T) {
	l := example()
	slices.Reverse(l)
	if got := Page(2, l, "m"); !slices.Equal(got, []api.Entry{entry(5, 7), entry(1, -5)}) {
		t.Errorf("Page: %v", got)
	}
	for peer, want := range map[int][2]int64{1: {3, -5}, 5: {15, 7}, 9: {8, 0}} {
		if got := told(Rest(2, 10, l, "m", peer)); got != (answer{want[0], api.OK}) {
			t.Errorf("Rest towards %d: %v", peer, got)
		}
		if got := told(Back(2, l, "m", peer)); got != (answer{want[1], api.OK}) {
			t.Errorf("Back %d: %v", peer, got)
		}
	}
}

// The entries may be left at each of them, and nothing is handed out any more then.
func TestEntriesAreLeftEarly(t *testing.T) {
	for stop := 1; stop <= 4; stop++ {
		var got []api.Entry
		for peer, out := range entries(2, takings(2, 1, 2, 3, 4), "m") {
			got = append(got, entry(peer, out))
			if len(got) == stop {
				break
			}
		}
		if want := sayPage(2, takings(2, 1, 2, 3, 4)[:stop], "m"); !slices.Equal(got, want) {
			t.Errorf("left at %d: %v, want %v", stop, got, want)
		}
	}
}
