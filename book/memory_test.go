package book

import (
	"math"
	"reflect"
	"slices"
	"testing"

	"eddy/api"
)

// roomy is the same half-edges with room behind the list, and behind the lines of each, in which something lies.
func roomy(l []api.Half) []api.Half {
	var all []api.Half
	for _, h := range append(slices.Clone(l), taking(2, 14, 99), taking(2, 15, 98)) {
		n := len(h.Lines)
		h.Lines = append(slices.Clone(h.Lines), line("m", register(9, 2, 97)), line("zz", register(9, 2, 96)))[:n]
		all = append(all, h)
	}
	return all[:len(l)]
}

// whole is all that lies in a list, its spare room and its lines'.
func whole(l []api.Half) []api.Half {
	var all []api.Half
	for _, h := range l[:cap(l)] {
		h.Lines = slices.Clone(h.Lines[:cap(h.Lines)])
		all = append(all, h)
	}
	return all
}

// given are half-edges of node 2, with a line for m, without one, and without any.
func given() []api.Half {
	return append(takings(2, 5, -8), to(3), to(4, line("l", register(1, 2, 3))), taking(2, 6, 20))
}

// callAll does all calls over half-edges of node 2.
func callAll(l []api.Half, name string) ([]api.Entry, []answer) {
	all := []answer{told(Taken(2, l, name)), told(Estimate(2, 100, l, name)), told(Estimate(2, most, l, name))}
	for _, peer := range anyPeers() {
		all = append(all, told(Rest(2, 100, l, name, peer)), told(Rest(2, -most, l, name, peer)), told(Back(2, l, name, peer)))
	}
	return Page(2, l, name), all
}

func TestWhatIsHandedInStays(t *testing.T) {
	for _, name := range names() {
		in := roomy(given())
		was := whole(in)
		callAll(in, name)
		if !reflect.DeepEqual(whole(in), was) {
			t.Errorf("%q: what was handed in is %+v, was %+v", name, whole(in), was)
		}
	}
}

func TestSpareRoomPlaysNoPart(t *testing.T) {
	for n := range len(given()) + 1 {
		for _, name := range names() {
			page, answers := callAll(roomy(given()[:n]), name)
			tightPage, tightAnswers := callAll(slices.Clip(given()[:n]), name)
			if !slices.Equal(page, tightPage) || !slices.Equal(answers, tightAnswers) {
				t.Errorf("%d half-edges, %q: %v %v, want %v %v", n, name, page, answers, tightPage, tightAnswers)
			}
		}
	}
}

func TestPageIsNewMemory(t *testing.T) {
	in := roomy(given())
	was := whole(in)
	want := []api.Entry{entry(0, 5), entry(1, -8), entry(6, 20)}
	page, again := Page(2, in, "m"), Page(2, in, "m")
	for i := range page[:cap(page)] {
		page[:cap(page)][i] = entry(-7, -7)
	}
	if !slices.Equal(again, want) || !slices.Equal(Page(2, in, "m"), want) {
		t.Errorf("writing over one page changes another one: %v", again)
	}
	if !reflect.DeepEqual(whole(in), was) {
		t.Errorf("writing over the page changes what was handed in: %+v", whole(in))
	}
	for i := range in {
		in[i].Peer = -7
		for j := range in[i].Lines {
			in[i].Lines[j] = line("x", register(1, 1, 1))
		}
	}
	if !slices.Equal(again, want) {
		t.Errorf("the page hangs on what was handed in: %v", again)
	}
}

// Nil and empty lists, of half-edges and of lines, are the same.
func TestNilAndEmptyAreTheSame(t *testing.T) {
	bare, empty := to(3), to(3)
	bare.Lines, empty.Lines = nil, []api.Line{}
	for _, pair := range [][2][]api.Half{{nil, {}}, {{bare}, {empty}}} {
		page, answers := callAll(pair[0], "m")
		otherPage, otherAnswers := callAll(pair[1], "m")
		if len(page) != 0 || len(otherPage) != 0 || !slices.Equal(answers, otherAnswers) {
			t.Errorf("%v %v, %v %v", page, answers, otherPage, otherAnswers)
		}
	}
}

// One list that several half-edges share as their lines is read alone.
func TestSharedLines(t *testing.T) {
	shared := []api.Line{line("m", register(1, 2, 4))}
	l := []api.Half{to(1, shared...), to(5, shared...)}
	l[0].Lines, l[1].Lines = shared, shared
	if got := Page(2, l, "m"); !slices.Equal(got, []api.Entry{entry(1, -4), entry(5, 4)}) || shared[0] != line("m", register(1, 2, 4)) {
		t.Errorf("%v, %v", got, shared)
	}
}

// odd are numbers and texts that no fit half-edge has, and some that one may have.
func (d dice) odd() api.Half {
	ints := anyPeers()
	pick := func() int64 {
		l := []int64{math.MinInt64, math.MinInt64 + 1, -most - 1, -most, -1, 0, 1, 2, most, most + 1, api.MaxVer, math.MaxInt64}
		return l[d.Intn(len(l))]
	}
	h := api.Half{Peer: ints[d.Intn(len(ints))], Boot: pick(), Life: pick(), Pending: d.Intn(2) == 0, Misses: ints[d.Intn(len(ints))]}
	for range d.Intn(12) {
		h.Lines = append(h.Lines, line([]string{"", "m", "m", "\xff", "M"}[d.Intn(5)], register(pick(), ints[d.Intn(len(ints))], pick())))
	}
	return h
}

// Every call ends and none panics, at all arguments; beside an error there is no number, and what is told is in its range.
func TestNothingPanics(t *testing.T) {
	d := newDice(1)
	ids := anyPeers()
	for range 20000 {
		var l []api.Half
		for range d.Intn(20) {
			l = append(l, d.odd())
		}
		was := whole(slices.Clip(l))
		id, peer, name := ids[d.Intn(len(ids))], ids[d.Intn(len(ids))], []string{"", "m", "\xff", "a name that is far too long"}[d.Intn(4)]
		input := []int64{math.MinInt64, -most - 1, -most, 0, most, math.MaxInt64}[d.Intn(6)]
		Page(id, l, name)
		for _, x := range []answer{told(Taken(id, l, name)), told(Estimate(id, input, l, name)), told(Rest(id, input, l, name, peer)), told(Back(id, l, name, peer))} {
			if x.err == api.OK && inRange(x.num) || x == (answer{0, api.ErrRange}) {
				continue
			}
			t.Fatalf("node %d, input %d, %+v, %q, peer %d: %v", id, input, l, name, peer, x)
		}
		if !reflect.DeepEqual(whole(slices.Clip(l)), was) {
			t.Fatalf("unfit ones are changed: %+v, were %+v", l, was)
		}
	}
}

// inRange tells whether a number is in the range of flows.
func inRange(x int64) bool { return -2147483647 <= x && x <= 2147483647 }
