package book

import (
	"math"
	"slices"
	"testing"

	"eddy/api"
	"eddy/half"
)

// example is the half-edges of node 2 of the chapter's first example.
func example() []api.Half {
	return []api.Half{to(1, line("m", register(1, 1, 5))), to(5, line("m", register(1, 2, 7)))}
}

func entry(peer int, out int64) api.Entry { return api.Entry{Peer: peer, Out: out} }

func TestP11_1PageExample(t *testing.T) {
	if got := Page(2, example(), "m"); !slices.Equal(got, []api.Entry{entry(1, -5), entry(5, 7)}) {
		t.Errorf("%v", got)
	}
}

func TestP11_1PageOfFewAndMany(t *testing.T) {
	for _, none := range [][]api.Half{nil, {}, {to(1)}, {to(1), to(5, line("n", register(1, 2, 7)))}} {
		if got := Page(2, none, "m"); len(got) != 0 {
			t.Errorf("of %+v: %v", none, got)
		}
	}
	if got := Page(2, example()[1:], "m"); !slices.Equal(got, []api.Entry{entry(5, 7)}) {
		t.Errorf("of one: %v", got)
	}
	for id := range api.MaxNodes {
		for n := range 16 {
			var outs []int64
			var want []api.Entry
			for i, peer := range others(id)[:n] {
				outs = append(outs, int64(100*i-300))
				want = append(want, entry(peer, int64(100*i-300)))
			}
			if got := Page(id, takings(id, outs...), "m"); !slices.Equal(got, want) {
				t.Errorf("node %d, %d half-edges: %v, want %v", id, n, got, want)
			}
		}
	}
}

// Of half-edges with a line of the name, without one, and without any, only the first have an entry, also if the flow is 0.
func TestP11_1PageNeedsALine(t *testing.T) {
	l := []api.Half{
		to(0),
		to(1, line("l", register(1, 1, 4)), line("n", register(1, 1, 4))),
		to(3, line("m", register(1, 3, 0))),
		to(4, line("mm", register(1, 4, 6))),
		to(6, line("l", register(2, 6, 1)), line("m", register(api.MaxVer, 2, 11)), line("n", register(3, 2, 2))),
		to(7, line("_", register(1, 7, 8)), line("l", register(1, 7, 8))),
		to(9, line("l", register(1, 2, 5)), line("m", register(1, 9, -12))),
	}
	for name, want := range map[string][]api.Entry{
		"m":                {entry(3, 0), entry(6, 11), entry(9, -12)},
		"l":                {entry(1, -4), entry(6, 1), entry(7, 8), entry(9, 5)},
		"n":                {entry(1, -4), entry(6, 2)},
		"mm":               {entry(4, 6)},
		"_":                {entry(7, 8)},
		"0":                {},
		"z":                {},
		"mmmmmmmmmmmmmmmm": {},
	} {
		if got := Page(2, l, name); !slices.Equal(got, want) {
			t.Errorf("%q: %v, want %v", name, got, want)
		}
	}
}

// A flow goes from the lower to the higher node, whoever has written it.
func TestP11_1WhatAnEdgeTakes(t *testing.T) {
	for id := range api.MaxNodes {
		for _, peer := range others(id) {
			for _, flow := range []int64{-most, -most + 1, -1, 0, 1, most - 1, most} {
				out := flow
				if peer < id {
					out = -flow
				}
				for _, writer := range []int{id, peer} {
					got := Page(id, []api.Half{to(peer, line("m", register(4, writer, flow)))}, "m")
					if !slices.Equal(got, []api.Entry{entry(peer, out)}) {
						t.Fatalf("node %d, peer %d, flow %d, by %d: %v", id, peer, flow, writer, got)
					}
				}
			}
		}
	}
}

func TestP11_2To5Example(t *testing.T) {
	l := example()
	for name, c := range map[string]struct{ got, want answer }{
		"Taken":                      {told(Taken(2, l, "m")), answer{2, api.OK}},
		"Taken of another name":      {told(Taken(2, l, "n")), answer{0, api.OK}},
		"Estimate":                   {told(Estimate(2, 10, l, "m")), answer{8, api.OK}},
		"Estimate of another name":   {told(Estimate(2, 10, l, "n")), answer{10, api.OK}},
		"Rest towards 5":             {told(Rest(2, 10, l, "m", 5)), answer{15, api.OK}},
		"Rest towards 1":             {told(Rest(2, 10, l, "m", 1)), answer{3, api.OK}},
		"Rest towards 9":             {told(Rest(2, 10, l, "m", 9)), answer{8, api.OK}},
		"Rest of another name":       {told(Rest(2, 10, l, "n", 5)), answer{10, api.OK}},
		"Back 5":                     {told(Back(2, l, "m", 5)), answer{7, api.OK}},
		"Back 1":                     {told(Back(2, l, "m", 1)), answer{-5, api.OK}},
		"Back 9":                     {told(Back(2, l, "m", 9)), answer{0, api.OK}},
		"Back of another name":       {told(Back(2, l, "n", 5)), answer{0, api.OK}},
		"Taken of none":              {told(Taken(2, nil, "m")), answer{0, api.OK}},
		"Estimate of none":           {told(Estimate(2, -most, nil, "m")), answer{-most, api.OK}},
		"Rest of none":               {told(Rest(2, most, nil, "m", 5)), answer{most, api.OK}},
		"Back of none":               {told(Back(2, []api.Half{}, "m", 5)), answer{0, api.OK}},
		"example 2, Estimate":        {told(Estimate(2, 2147483647, takings(2, -1), "m")), answer{0, api.ErrRange}},
		"example 2, Rest towards it": {told(Rest(2, 2147483647, takings(2, -1), "m", 0)), answer{2147483647, api.OK}},
		"example 2, Rest towards another one": {
			told(Rest(2, 2147483647, takings(2, -1), "m", 1)), answer{0, api.ErrRange}},
	} {
		if c.got != c.want {
			t.Errorf("%s: %v, want %v", name, c.got, c.want)
		}
	}
}

// What parts come to on the way plays no part; what comes at the end does, at each edge of the range. The numbers stand
// for what the edges take, in the order of the half-edges.
func TestP11_2TakenAtTheRange(t *testing.T) {
	for _, c := range []struct {
		outs []int64
		want answer
	}{
		{[]int64{most}, answer{most, api.OK}},
		{[]int64{-most}, answer{-most, api.OK}},
		{[]int64{most, -1}, answer{most - 1, api.OK}},
		{[]int64{most - 1, 1}, answer{most, api.OK}},
		{[]int64{most, 1}, answer{0, api.ErrRange}},
		{[]int64{1 - most, -1}, answer{-most, api.OK}},
		{[]int64{-most, 1}, answer{1 - most, api.OK}},
		{[]int64{-most, -1}, answer{0, api.ErrRange}},
		{[]int64{most, most, -most}, answer{most, api.OK}},
		{[]int64{most, most, -most, -1}, answer{most - 1, api.OK}},
		{[]int64{most, most, 1 - most}, answer{0, api.ErrRange}},
		{[]int64{-most, -most, most}, answer{-most, api.OK}},
		{[]int64{-most, -most, most - 1}, answer{0, api.ErrRange}},
		{[]int64{most, most, 2}, answer{0, api.ErrRange}}, // 2^32
		{[]int64{-most, -most, -2}, answer{0, api.ErrRange}},
		{slices.Repeat([]int64{most}, 6), answer{0, api.ErrRange}},
		{slices.Repeat([]int64{most}, 15), answer{0, api.ErrRange}},
		{slices.Repeat([]int64{-most}, 15), answer{0, api.ErrRange}},
		{append(append(slices.Repeat([]int64{most}, 7), slices.Repeat([]int64{-most}, 7)...), 5), answer{5, api.OK}},
		{append(append(slices.Repeat([]int64{-most}, 7), slices.Repeat([]int64{most}, 7)...), most), answer{most, api.OK}},
	} {
		for _, id := range []int{0, 7, 15} {
			if got := told(Taken(id, takings(id, c.outs...), "m")); got != c.want {
				t.Errorf("node %d, %v: %v, want %v", id, c.outs, got, c.want)
			}
		}
	}
}

func TestP11_3EstimateAtTheRange(t *testing.T) {
	for _, c := range []struct {
		input int64
		outs  []int64
		want  answer
	}{
		{most, nil, answer{most, api.OK}},
		{-most, nil, answer{-most, api.OK}},
		{most, []int64{most}, answer{0, api.OK}},
		{-most, []int64{-most}, answer{0, api.OK}},
		{0, []int64{most}, answer{-most, api.OK}},
		{0, []int64{-most}, answer{most, api.OK}},
		{1, []int64{-most}, answer{0, api.ErrRange}},
		{-1, []int64{most}, answer{0, api.ErrRange}},
		{-1, []int64{-most}, answer{most - 1, api.OK}},
		{1, []int64{most}, answer{1 - most, api.OK}},
		{most, []int64{-1}, answer{0, api.ErrRange}},
		{most, []int64{0}, answer{most, api.OK}},
		{most, []int64{1}, answer{most - 1, api.OK}},
		{-most, []int64{1}, answer{0, api.ErrRange}},
		{-most, []int64{-1}, answer{1 - most, api.OK}},
		{most, []int64{most, most}, answer{-most, api.OK}},   // Taken leaves the range, Estimate does not
		{-most, []int64{-most, -most}, answer{most, api.OK}}, // likewise
		{most, []int64{most, most, 1}, answer{0, api.ErrRange}},
		{most, []int64{-5, 5}, answer{most, api.OK}}, // out of the range on the way
		{-most, []int64{5, -5}, answer{-most, api.OK}},
		{most, []int64{-most, -most, most, most, 3}, answer{most - 3, api.OK}},
		{-most, []int64{most, 2, 1}, answer{0, api.ErrRange}}, // -2^32 - 1
		{most, slices.Repeat([]int64{-most}, 15), answer{0, api.ErrRange}},
		{-most, slices.Repeat([]int64{most}, 15), answer{0, api.ErrRange}},
	} {
		for _, id := range []int{0, 7, 15} {
			if got := told(Estimate(id, c.input, takings(id, c.outs...), "m")); got != c.want {
				t.Errorf("node %d, %d, %v: %v, want %v", id, c.input, c.outs, got, c.want)
			}
		}
	}
}

// The half-edge that is left out is told by its place among the others.
func TestP11_4RestAtTheRange(t *testing.T) {
	for _, c := range []struct {
		input int64
		outs  []int64
		left  int
		want  answer
	}{
		{most, []int64{-1}, 0, answer{most, api.OK}},
		{-most, []int64{1}, 0, answer{-most, api.OK}},
		{most, []int64{-1, 7}, 1, answer{0, api.ErrRange}},
		{most, []int64{-1, 1, 7}, 2, answer{most, api.OK}},
		{most, []int64{7, -1, 2}, 0, answer{most - 1, api.OK}},
		{most, []int64{most, most, most}, 1, answer{-most, api.OK}},
		{most, []int64{most, most, most, 1}, 1, answer{0, api.ErrRange}},
		{-most, []int64{-most, 5, -most}, 1, answer{most, api.OK}},
		{-most, []int64{-most, 5, -most, -1}, 1, answer{0, api.ErrRange}},
		{0, []int64{most, -most}, 0, answer{most, api.OK}},
		{0, []int64{most, -most}, 1, answer{-most, api.OK}},
		{1, []int64{most, -most}, 0, answer{0, api.ErrRange}},
		{-1, []int64{most, -most}, 1, answer{0, api.ErrRange}},
		{1, []int64{most, -most}, 1, answer{1 - most, api.OK}},
		{-1, []int64{most, -most}, 0, answer{most - 1, api.OK}},
		{most, append([]int64{most}, slices.Repeat([]int64{-most, most}, 7)...), 0, answer{most, api.OK}},
		{most, append([]int64{1}, slices.Repeat([]int64{-most}, 14)...), 0, answer{0, api.ErrRange}},
	} {
		for _, id := range []int{0, 7, 15} {
			if got := told(Rest(id, c.input, takings(id, c.outs...), "m", others(id)[c.left])); got != c.want {
				t.Errorf("node %d, %d, %v without the one at %d: %v, want %v", id, c.input, c.outs, c.left, got, c.want)
			}
		}
	}
}

// What other half-edges take plays no part in what comes back; at the range's edge it comes back whole.
func TestP11_5BackAtTheRange(t *testing.T) {
	for _, out := range []int64{-most, 1 - most, -1, 0, 1, most - 1, most} {
		for _, beside := range []int64{-most, 0, most} {
			for at := range 5 {
				outs := slices.Repeat([]int64{beside}, 5)
				outs[at] = out
				for _, id := range []int{0, 3, 15} {
					if got := told(Back(id, takings(id, outs...), "m", others(id)[at])); got != (answer{out, api.OK}) {
						t.Errorf("node %d, %v, the one at %d: %v", id, outs, at, got)
					}
				}
			}
		}
	}
}

// A peer to whom there is no half-edge, and a number that is no node's, takes nothing and is left out of nothing.
func TestP11_4And5PeersThatAreNone(t *testing.T) {
	l := takings(2, 5, -8, 20)
	for _, peer := range anyPeers() {
		rest, back := answer{83, api.OK}, answer{0, api.OK}
		switch peer {
		case 0:
			rest, back = answer{88, api.OK}, answer{5, api.OK}
		case 1:
			rest, back = answer{75, api.OK}, answer{-8, api.OK}
		case 3:
			rest, back = answer{103, api.OK}, answer{20, api.OK}
		}
		if got := told(Rest(2, 100, l, "m", peer)); got != rest {
			t.Errorf("Rest towards %d: %v, want %v", peer, got, rest)
		}
		if got := told(Back(2, l, "m", peer)); got != back {
			t.Errorf("Back %d: %v, want %v", peer, got, back)
		}
	}
}

// A half-edge to the peer without a line of the name, or without any, is as none.
func TestP11_4And5PeersWithoutALine(t *testing.T) {
	l := []api.Half{to(1, line("n", register(1, 1, 9))), to(4), to(6, line("m", register(1, 2, 30)))}
	for peer, want := range map[int][2]int64{1: {70, 0}, 4: {70, 0}, 5: {70, 0}, 6: {100, 30}} {
		if got := told(Rest(2, 100, l, "m", peer)); got != (answer{want[0], api.OK}) {
			t.Errorf("Rest towards %d: %v", peer, got)
		}
		if got := told(Back(2, l, "m", peer)); got != (answer{want[1], api.OK}) {
			t.Errorf("Back %d: %v", peer, got)
		}
	}
}

// Of three half-edges that take each of these numbers, have no line of the name, or none at all, every call at every
// input at the range's edges and at nought is what the words say.
func TestP11_1To5AllOfThree(t *testing.T) {
	kinds := []func(id, peer int) api.Half{
		func(id, peer int) api.Half { return to(peer) },
		func(id, peer int) api.Half { return to(peer, line("l", register(1, id, most))) },
	}
	for _, out := range []int64{-most, -1, 0, 1, most} {
		kinds = append(kinds, func(id, peer int) api.Half { return taking(id, peer, out) })
	}
	for _, id := range []int{0, 6, 15} {
		peers := []int{1, 7, 14}
		for n := range len(kinds) * len(kinds) * len(kinds) {
			l := []api.Half{kinds[n%7](id, 1), kinds[n/7%7](id, 7), kinds[n/49](id, 14)}
			if !half.Fits(id, l) {
				t.Fatalf("%+v", l)
			}
			for _, input := range []int64{-most, 1 - most, -1, 0, 1, most - 1, most} {
				right(t, id, input, l, "m", append(peers, id, 2, -1, 16))
			}
		}
	}
}

func TestP11_1To5WhatTheWordsSay(t *testing.T) {
	d, fit, beyond := newDice(111), 0, 0
	for range 20000 {
		id := d.Intn(api.MaxNodes)
		input, l, name := d.number(), d.halves(id), d.name()
		right(t, id, input, l, name, anyPeers())
		if _, e := Estimate(id, input, l, name); e == api.OK {
			fit++
		} else {
			beyond++
		}
	}
	if fit < 1000 || beyond < 1000 {
		t.Errorf("%d in range, %d beyond it", fit, beyond)
	}
}

// An input that is out of its range is answered as any number that leaves it; Back and Taken do not ask for it.
func TestInputsBeyondTheRange(t *testing.T) {
	for _, input := range []int64{math.MinInt64, -most - 1, most + 1, math.MaxInt64} {
		for _, l := range [][]api.Half{nil, takings(2, most), takings(2, -most), takings(2, most, most)} {
			if got := told(Estimate(2, input, l, "m")); got != (answer{0, api.ErrRange}) {
				t.Errorf("Estimate of %d: %v", input, got)
			}
			if got := told(Rest(2, input, l, "m", 0)); got != (answer{0, api.ErrRange}) {
				t.Errorf("Rest of %d: %v", input, got)
			}
		}
	}
}
