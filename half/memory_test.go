package half

import (
	"math"
	"reflect"
	"slices"
	"testing"

	"eddy/api"
)

var oddLine = line("!", register(-7, -7, -7))

// roomy is the same half-edges with room behind the list, and behind the lines of each, in which something lies.
func roomy(l []api.Half) []api.Half {
	var all []api.Half
	for _, h := range append(slices.Clone(l), edge(7), edge(8), bare(9)) {
		h.Lines = append(append(slices.Clone(h.Lines), line("a", register(9, 2, 9)), line("m", register(9, 9, 9))), oddLine)
		h.Lines = h.Lines[:len(h.Lines)-3]
		all = append(all, h)
	}
	return all[:len(l)]
}

// whole is all that lies in a list, its spare room and its lines'.
func whole(l []api.Half) []api.Half {
	var all []api.Half
	for _, h := range l[:cap(l)] {
		h.Lines = slices.Clone(h.Lines[:cap(h.Lines)])
		all = append(all, h)
	}
	return all
}

// spoil writes over all that lies in a list, its spare room and its lines'.
func spoil(l []api.Half) {
	l = l[:cap(l)]
	for i := range l {
		spoilLines(l[i])
		l[i] = api.Half{Peer: -7, Boot: -7, Life: -7, Pending: !l[i].Pending, Misses: -7, Lines: l[i].Lines}
	}
}

func spoilLines(h api.Half) {
	for j := range h.Lines[:cap(h.Lines)] {
		h.Lines[:cap(h.Lines)][j] = oddLine
	}
}

// calls are all calls that half-edges go into and come out of; each takes its own from the list that it is handed.
func calls() map[string]func(l []api.Half) []api.Half {
	of := func(h api.Half, _ bool) []api.Half { return []api.Half{h} }
	list := func(l []api.Half, _ bool) []api.Half { return l }
	last := func(l []api.Half) api.Half { return l[len(l)-1] }
	r := register(50, 2, 5)
	return map[string]func(l []api.Half) []api.Half{
		"Find the first":         func(l []api.Half) []api.Half { return of(Find(l, l[0].Peer)) },
		"Find the last":          func(l []api.Half) []api.Half { return of(Find(l, last(l).Peer)) },
		"Find none":              func(l []api.Half) []api.Half { return of(Find(l, -1)) },
		"Put one more":           func(l []api.Half) []api.Half { return Put(l[:len(l)-1], last(l)) },
		"Put one more, first":    func(l []api.Half) []api.Half { return Put(l[1:], l[0]) },
		"Put in its place":       func(l []api.Half) []api.Half { return Put(l, l[0]) },
		"Put in its place, last": func(l []api.Half) []api.Half { return Put(l, last(l)) },
		"Put among none":         func(l []api.Half) []api.Half { return Put(l[:0], l[0]) },
		"Drop the first":         func(l []api.Half) []api.Half { return list(Drop(l, l[0].Peer)) },
		"Drop the last":          func(l []api.Half) []api.Half { return list(Drop(l, last(l).Peer)) },
		"Drop none":              func(l []api.Half) []api.Half { return list(Drop(l, -1)) },
		"Write one more":         func(l []api.Half) []api.Half { return of(Write(last(l), "n", r), true) },
		"Write one more, first":  func(l []api.Half) []api.Half { return of(Write(last(l), "0", r), true) },
		"Write one more, last":   func(l []api.Half) []api.Half { return of(Write(last(l), "zzz", r), true) },
		"Write what is there":    func(l []api.Half) []api.Half { return of(Write(last(l), "m", r), true) },
		"Write zero":             func(l []api.Half) []api.Half { return of(Write(last(l), "m", api.Reg{}), true) },
		"Write zero, not there":  func(l []api.Half) []api.Half { return of(Write(last(l), "n", api.Reg{}), true) },
		"Merge what is newer":    func(l []api.Half) []api.Half { return of(Merge(2, last(l), "m", r)) },
		"Merge where none is":    func(l []api.Half) []api.Half { return of(Merge(2, last(l), "n", r)) },
		"Merge what is older":    func(l []api.Half) []api.Half { return of(Merge(2, last(l), "m", register(1, 2, 5))) },
		"Merge what is not fit":  func(l []api.Half) []api.Half { return of(Merge(2, last(l), "m", register(60, -1, 5))) },
		"Forget":                 func(l []api.Half) []api.Half { return Forget(l, "m") },
		"Forget what none has":   func(l []api.Half) []api.Half { return Forget(l, "n") },
		"Copy":                   Copy,
		"Copy of none with room": func(l []api.Half) []api.Half { return Copy(l[:0]) },
		"Same, Peers, Fits, Fit": func(l []api.Half) []api.Half {
			Same(l, l[:1])
			Peers(l)
			Fits(2, l)
			Fit(2, l[0])
			Reg(l[0], "m")
			return nil
		},
		"Drop down to none":       func(l []api.Half) []api.Half { return list(Drop(l[:1], l[0].Peer)) },
		"Forget the only line":    func(l []api.Half) []api.Half { return Forget([]api.Half{withLines(line("m", r))}, "m") },
		"Write to a full one":     func(l []api.Half) []api.Half { return of(Write(l[0], "zzz", r), true) },
		"Merge into a full one":   func(l []api.Half) []api.Half { return of(Merge(2, l[0], "zzz", r)) },
		"Find one without a line": func(l []api.Half) []api.Half { return of(Find(l, 1)) },
	}
}

// given are half-edges of node 2: one with all lines, one with none, and others.
func given() []api.Half {
	full := withLines(numbered(api.MaxChans)...)
	full.Peer = 0
	for i := range full.Lines {
		full.Lines[i].Reg.Writer = 2
	}
	return append([]api.Half{full, bare(1)}, edges(3, 5, 6)...)
}

func TestWhatIsHandedInStays(t *testing.T) {
	for name, call := range calls() {
		in := roomy(given())
		was := whole(in)
		out := call(in)
		if !reflect.DeepEqual(whole(in), was) {
			t.Errorf("%s: what was handed in is %+v, was %+v", name, whole(in), was)
		}
		keep := allApart(out)
		spoil(in)
		if !alike(out, keep) {
			t.Errorf("%s: the answer hangs on what was handed in: %+v, was %+v", name, out, keep)
		}
	}
}

func TestWhatComesOutIsNewMemory(t *testing.T) {
	for name, call := range calls() {
		in := roomy(given())
		was := whole(in)
		out := call(in)
		again := call(in)
		keep := allApart(again)
		spoil(out)
		if !reflect.DeepEqual(whole(in), was) {
			t.Errorf("%s: writing over the answer changes what was handed in: %+v, was %+v", name, whole(in), was)
		}
		if !alike(again, keep) || !alike(call(in), keep) {
			t.Errorf("%s: writing over one answer changes another one", name)
		}
	}
}

func TestListsOfOneAnswerShareNothing(t *testing.T) {
	for name, call := range calls() {
		out := call(roomy(given()))
		for i := range out {
			keep := allApart(out)
			spoilLines(out[i])
			keep[i] = apart(out[i])
			if !alike(out, keep) {
				t.Errorf("%s: the lines of %d are those of another one", name, i)
			}
		}
	}
}

// One half-edge that stands in a list and is put into it as well, or lines that two half-edges share when they are handed in.
func TestSharedArguments(t *testing.T) {
	shared := edge(5).Lines
	a, b := bare(1), bare(5)
	a.Lines, b.Lines = shared, shared[:2]
	for _, out := range [][]api.Half{Copy([]api.Half{a, b}), Put([]api.Half{a}, b), Forget([]api.Half{a, b}, "n"), Put([]api.Half{a, b}, b)} {
		spoilLines(out[0])
		if !one(out[1], b) || !slices.Equal(shared, edge(5).Lines) {
			t.Errorf("%+v", out)
		}
	}
}

// Peers tells new numbers each time.
func TestPeersAreNewMemory(t *testing.T) {
	l := edges(1, 5, 9)
	p := Peers(l)
	for i := range p[:cap(p)] {
		p[:cap(p)][i] = -7
	}
	if !slices.Equal(Peers(l), []int{1, 5, 9}) || !alike(l, edges(1, 5, 9)) {
		t.Errorf("%v", Peers(l))
	}
}

// What lies in spare room plays no part: the answers are those to lists without any.
func TestSpareRoomPlaysNoPart(t *testing.T) {
	for name, call := range calls() {
		tight := allApart(given())
		for i := range tight {
			tight[i].Lines = slices.Clip(tight[i].Lines)
		}
		if got, want := call(roomy(given())), call(slices.Clip(tight)); !alike(got, want) {
			t.Errorf("%s: %+v, want %+v", name, got, want)
		}
	}
}

// Every call ends and none panics, at all arguments.
func TestNothingPanics(t *testing.T) {
	d := newDice(1)
	names := []string{"", "a", "m", "zzz", "\xff", "A", "a name that is far too long to be one"}
	for range 3000 {
		var l []api.Half
		for range d.Intn(7) {
			l = append(l, odds()[d.Intn(len(odds()))])
		}
		h := odds()[d.Intn(len(odds()))]
		peer := anyPeers()[d.Intn(len(anyPeers()))]
		name, r := names[d.Intn(len(names))], anyRegisters()[d.Intn(343)]
		was := allApart(l)
		Fit(peer, h)
		Fits(peer, l)
		Find(l, peer)
		Put(l, h)
		Drop(l, peer)
		Begin(peer, r.Ver, r.Flow)
		Reg(h, name)
		Write(h, name, r)
		Merge(peer, h, name, r)
		Forget(l, name)
		Peers(l)
		Copy(l)
		Same(l, append(l, h))
		if !alike(l, was) {
			t.Fatalf("unfit ones are changed: %+v, were %+v", l, was)
		}
	}
	Begin(math.MinInt, math.MinInt64, math.MaxInt64)
}
