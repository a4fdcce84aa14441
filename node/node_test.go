package node

import (
	"math"
	"slices"
	"testing"

	"eddy/api"
)

// on and gone are records as the document's examples write them.
func on(name string, epoch int64, maker, kind int, scale int64) api.Chan {
	return api.Chan{Name: name, Epoch: epoch, Maker: maker, Alive: true, Kind: kind, Scale: scale}
}

func gone(name string, epoch int64, maker, kind int, scale int64) api.Chan {
	return api.Chan{Name: name, Epoch: epoch, Maker: maker, Kind: kind, Scale: scale}
}

// of is an extreme value that is there.
func of(value int64, origin int, age int64) api.Ext {
	return api.Ext{Has: true, Value: value, Origin: origin, Age: age}
}

// with is a state with an input.
func with(c api.Chan, input int64) api.State { return api.State{Chan: c, Has: true, Input: input} }

func line(name string, ver int64, writer int, flow int64) api.Line {
	return api.Line{Name: name, Reg: api.Reg{Ver: ver, Writer: writer, Flow: flow}}
}

// base is node 2 with boot 7. It wants 9, 5, 0 and 1, holds edges to 1 and 5, has dropped one to 5 twice and one to 0
// once, and has a channel of each kind, and one that is not alive.
func base() api.Node {
	return api.Node{
		Id: 2, Boot: 7, Ticks: 3,
		Want: []int{9, 5, 0, 1}, Turn: 1,
		Seen: []api.Seen{{Peer: 0, Boot: 2, Life: 1, Mine: 1}, {Peer: 1, Boot: 4, Life: 0}, {Peer: 5, Boot: 3, Life: 1, Mine: 2}},
		Halves: []api.Half{
			{Peer: 1, Boot: 4, Lines: []api.Line{line("m", 1, 1, 5)}},
			{Peer: 5, Boot: 3, Life: 1, Lines: []api.Line{line("c", 3, 5, -250), line("m", 1, 2, 7)}, Pending: true, Misses: 1},
		},
		Chans: []api.State{
			with(on("c", 2, 1, api.KCount, 1000), 1000),
			{Chan: on("e", 1, 5, api.KExt, 1), Has: true, Input: -3, Min: of(-3, 2, 0), Max: of(9, 1, 4)},
			{Chan: gone("g", 4, 2, api.KMean, 1)},
			with(on("m", 1, 2, api.KMean, 1), 8),
			{Chan: on("q", 1, 1, api.KSquare, 4)},
		},
	}
}

// as is a state with something changed.
func as(st api.Node, change func(st *api.Node)) api.Node {
	st = say(st).node()
	change(&st)
	return st
}

// expect holds what has come of a call against what is wanted.
func expect(t *testing.T, what string, got, want came) {
	t.Helper()
	if !alike(got.st, want.st) {
		t.Errorf("%s: the state\n%+v\nwant\n%+v", what, got.st, want.st)
	}
	if !samePackets(got.packets, want.packets) {
		t.Errorf("%s: packets\n%+v\nwant\n%+v", what, got.packets, want.packets)
	}
	if !slices.Equal(got.events, want.events) {
		t.Errorf("%s: events %+v, want %+v", what, got.events, want.events)
	}
	if got.err != want.err {
		t.Errorf("%s: error %d, want %d", what, got.err, want.err)
	}
}

// held, dropped, balanced, beyond, learned and ignored are events.
func held(peer int, boot int64) api.Event {
	return api.Event{Kind: api.EvHeld, Peer: peer, Num: boot}
}

func dropped(peer int, why int64) api.Event {
	return api.Event{Kind: api.EvDropped, Peer: peer, Num: why}
}

func balanced(peer int, name string, amount int64) api.Event {
	return api.Event{Kind: api.EvBalanced, Peer: peer, Name: name, Num: amount}
}

func beyond(peer int, name string) api.Event {
	return api.Event{Kind: api.EvRange, Peer: peer, Name: name}
}

func learned(name string, epoch int64) api.Event {
	return api.Event{Kind: api.EvLearned, Name: name, Num: epoch}
}

func ignored(p api.Packet) []api.Event {
	return []api.Event{{Kind: api.EvIgnored, Peer: p.From, Num: int64(p.Kind)}}
}

// linked is the node of example 1, that wants 5.
func linked(t *testing.T) api.Node {
	t.Helper()
	st, packets, events, err := Link(New(2, 7), 5)
	if err != api.OK || len(packets) > 0 || len(events) > 0 {
		t.Fatal(packets, events, err)
	}
	return st
}

// joined is the same, behind its Hello and the Welcome of 5.
func joined(t *testing.T) api.Node {
	t.Helper()
	st, packets, events := Tick(linked(t))
	expect(t, "example 1, a Tick", came{st, packets, events, api.OK}, came{
		st:      api.Node{Id: 2, Boot: 7, Ticks: 1, Want: []int{5}},
		packets: []api.Packet{{Kind: api.PkHello, From: 2, To: 5, Boot: 7}},
	})
	st, packets, events = Receive(st, api.Packet{Kind: api.PkWelcome, From: 5, To: 2, Boot: 3, Echo: 7})
	expect(t, "example 1, a Welcome", came{st, packets, events, api.OK}, came{
		st:      api.Node{Id: 2, Boot: 7, Ticks: 1, Want: []int{5}, Seen: []api.Seen{{Peer: 5, Boot: 3}}, Halves: []api.Half{{Peer: 5, Boot: 3, Pending: true}}},
		packets: []api.Packet{{Kind: api.PkAsk, From: 2, To: 5, Boot: 7, Echo: 3}},
		events:  []api.Event{held(5, 3)},
	})
	return st
}

func TestExample1(t *testing.T) {
	st := joined(t)
	after, packets, events := Receive(st, api.Packet{Kind: api.PkHello, From: 5, To: 2, Boot: 4})
	expect(t, "example 1, a Hello", came{after, packets, events, api.OK}, came{
		st:      st,
		packets: []api.Packet{{Kind: api.PkWelcome, From: 2, To: 5, Boot: 7, Echo: 4}},
	})
}

func TestExample2(t *testing.T) {
	st := joined(t)
	ask := api.Packet{Kind: api.PkAsk, From: 2, To: 5, Boot: 7, Echo: 3}
	hello := api.Packet{Kind: api.PkHello, From: 2, To: 5, Boot: 7, Life: 1}
	for i, want := range []struct {
		packet api.Packet
		events []api.Event
		misses int
	}{
		{ask, nil, 1}, {ask, nil, 2}, {hello, []api.Event{dropped(5, api.DropMiss)}, -1}, {hello, nil, -1}, {hello, nil, -1},
	} {
		next, packets, events := Tick(st)
		wanted := api.Node{Id: 2, Boot: 7, Ticks: int64(i) + 2, Want: []int{5}, Seen: []api.Seen{{Peer: 5, Boot: 3, Mine: 1}}}
		if want.misses > 0 {
			wanted.Seen[0].Mine = 0
			wanted.Halves = []api.Half{{Peer: 5, Boot: 3, Pending: true, Misses: want.misses}}
		}
		expect(t, "example 2", came{next, packets, events, api.OK}, came{wanted, []api.Packet{want.packet}, want.events, api.OK})
		st = next
	}
}

func TestExample3(t *testing.T) {
	st, packets, events, err := Create(joined(t), "m", api.KMean, 1)
	m := on("m", 1, 2, api.KMean, 1)
	expect(t, "example 3, Create", came{st, packets, events, err}, came{
		st:      api.Node{Id: 2, Boot: 7, Ticks: 1, Want: []int{5}, Seen: []api.Seen{{Peer: 5, Boot: 3}}, Halves: []api.Half{{Peer: 5, Boot: 3, Pending: true}}, Chans: []api.State{{Chan: m}}},
		packets: []api.Packet{{Kind: api.PkAsk, From: 2, To: 5, Boot: 7, Echo: 3, Items: []api.Item{{Chan: m, HasRest: true}}}},
		events:  []api.Event{learned("m", 1)},
	})
	st, err = Set(st, "m", 8)
	if err != api.OK || st.Chans[0] != with(m, 8) {
		t.Fatalf("example 3, Set: %+v, %d", st, err)
	}
	after, packets, events := Receive(st, api.Packet{Kind: api.PkAsk, From: 5, To: 2, Boot: 3, Echo: 7, Items: []api.Item{{Chan: m, HasRest: true, Rest: 20}}})
	want := as(st, func(st *api.Node) { st.Halves[0].Lines = []api.Line{line("m", 1, 2, -6)} })
	expect(t, "example 3, the Ask", came{after, packets, events, api.OK}, came{
		st:      want,
		packets: []api.Packet{{Kind: api.PkAnswer, From: 2, To: 5, Boot: 7, Echo: 3, Items: []api.Item{{Chan: m, Reg: api.Reg{Ver: 1, Writer: 2, Flow: -6}}}}},
		events:  []api.Event{balanced(5, "m", 6)},
	})
	if x, err := Estimate(after, "m"); x != 14 || err != api.OK {
		t.Errorf("example 3: the estimate %d, %d", x, err)
	}
	if x, err := Rest(after, "m", 5); x != 8 || err != api.OK {
		t.Errorf("example 3: the rest %d, %d", x, err)
	}
}

func TestP20_1New(t *testing.T) {
	boots := []int64{math.MinInt64, -last, -1, 0, 1, 2, 1 << 32, last - 1, last, last + 1, math.MaxInt64}
	for _, id := range []int{math.MinInt, -1 << 32, -16, -1, 0, 1, 7, 14, 15, 16, 17, 1 << 32, math.MaxInt} {
		for _, boot := range boots {
			var want api.Node
			if id >= 0 && id <= 15 && boot >= 1 && boot <= 1<<40 {
				want = api.Node{Id: id, Boot: boot}
			}
			if got := New(id, boot); !alike(got, want) {
				t.Errorf("New(%d, %d): %+v", id, boot, got)
			}
		}
	}
}

// What is told of base's channels: m takes -5 on the edge to 1 and 7 on that to 5, c -250 on that to 5.
func TestP20_6EstimateAndRest(t *testing.T) {
	st := base()
	for _, c := range []struct {
		name     string
		estimate int64
		rests    map[int]int64
		err      api.Errno
	}{
		{"m", 6, map[int]int64{1: 1, 5: 13, 0: 6, 9: 6, 2: 6, 3: 6, 15: 6, -1: 6, 16: 6, math.MaxInt: 6, math.MinInt: 6}, api.OK},
		{"c", 1250, map[int]int64{1: 1250, 5: 1000, 0: 1250, 9: 1250, -1: 1250}, api.OK},
		{"q", 0, map[int]int64{1: 0, 5: 0, 9: 0}, api.OK},
		{"e", 0, map[int]int64{1: 0, 5: 0, 9: 0}, api.ErrKind},
		{"g", 0, map[int]int64{1: 0, 5: 0, 9: 0}, api.ErrNone},
		{"x", 0, map[int]int64{1: 0, 5: 0, 9: 0}, api.ErrNone},
		{"", 0, map[int]int64{1: 0}, api.ErrNone},
		{"M", 0, map[int]int64{1: 0}, api.ErrNone},
		{"m\x00", 0, map[int]int64{1: 0}, api.ErrNone},
	} {
		if x, err := Estimate(st, c.name); x != c.estimate || err != c.err {
			t.Errorf("Estimate %q: %d, %d", c.name, x, err)
		}
		for peer, want := range c.rests {
			if x, err := Rest(st, c.name, peer); x != want || err != c.err {
				t.Errorf("Rest %q towards %d: %d, %d", c.name, peer, x, err)
			}
		}
	}
}

// One beyond either end of the range, and back within it where the half-edge that takes is left out.
func TestP20_6OutOfRange(t *testing.T) {
	for _, sign := range []int64{1, -1} {
		st := as(base(), func(st *api.Node) { st.Chans[3].Input = sign * most })
		st.Halves[0].Lines[0].Reg.Flow = 0 // to 1
		for _, c := range []struct {
			flow          int64 // to 5: what it takes
			estimate, one int64 // this and the rest towards 1
			err           api.Errno
		}{
			{0, sign * most, sign * most, api.OK},
			{sign, sign * (most - 1), sign * (most - 1), api.OK},
			{-sign, 0, 0, api.ErrRange},
			{-sign * most, 0, 0, api.ErrRange},
			{sign * most, 0, 0, api.OK},
		} {
			st.Halves[1].Lines[1].Reg.Flow = c.flow
			if x, err := Estimate(st, "m"); x != c.estimate || err != c.err {
				t.Errorf("input %d, less %d: %d, %d", sign*most, c.flow, x, err)
			}
			if x, err := Rest(st, "m", 1); x != c.one || err != c.err {
				t.Errorf("input %d, less %d: the rest towards 1 %d, %d", sign*most, c.flow, x, err)
			}
			if x, err := Rest(st, "m", 5); x != sign*most || err != api.OK {
				t.Errorf("input %d: the rest towards 5 %d, %d", sign*most, x, err)
			}
		}
		// What parts come to on the way plays no part.
		st.Halves[0].Lines[0].Reg.Flow, st.Halves[1].Lines[1].Reg.Flow = -sign*most, sign*most // 1 is below 2: it takes the other sign
		if x, err := Estimate(st, "m"); x != -sign*most || err != api.OK {
			t.Errorf("input %d, less it twice: %d, %d", sign*most, x, err)
		}
	}
}

func TestP20_7LeastAndGreatest(t *testing.T) {
	st := base()
	blank := as(st, func(st *api.Node) { st.Chans[1].Min, st.Chans[1].Max = none, none })
	oneSided := as(st, func(st *api.Node) { st.Chans[1].Min = none })
	for _, c := range []struct {
		what            string
		st              api.Node
		name            string
		least, greatest api.Ext
		err, errMax     api.Errno
	}{
		{"two", st, "e", of(-3, 2, 0), of(9, 1, 4), api.OK, api.OK},
		{"one", oneSided, "e", none, of(9, 1, 4), api.ErrEmpty, api.OK},
		{"none", blank, "e", none, none, api.ErrEmpty, api.ErrEmpty},
		{"KMean", st, "m", none, none, api.ErrKind, api.ErrKind},
		{"KCount", st, "c", none, none, api.ErrKind, api.ErrKind},
		{"KSquare", st, "q", none, none, api.ErrKind, api.ErrKind},
		{"not alive", st, "g", none, none, api.ErrNone, api.ErrNone},
		{"KExt, not alive", as(st, func(st *api.Node) { st.Chans[1] = api.State{Chan: gone("e", 2, 5, api.KExt, 1)} }), "e", none, none, api.ErrNone, api.ErrNone},
		{"not there", st, "ee", none, none, api.ErrNone, api.ErrNone},
		{"no name", st, "", none, none, api.ErrNone, api.ErrNone},
		{"a new node", New(0, 1), "e", none, none, api.ErrNone, api.ErrNone},
	} {
		if e, err := Least(c.st, c.name); e != c.least || err != c.err {
			t.Errorf("%s: the least %+v, %d", c.what, e, err)
		}
		if e, err := Greatest(c.st, c.name); e != c.greatest || err != c.errMax {
			t.Errorf("%s: the greatest %+v, %d", c.what, e, err)
		}
	}
}

// baseItems are base's Items towards a peer to whom it holds no edge.
func baseItems() []api.Item {
	return []api.Item{
		{Chan: on("c", 2, 1, api.KCount, 1000), HasRest: true, Rest: 1250},
		{Chan: on("e", 1, 5, api.KExt, 1), Min: of(-3, 2, 0), Max: of(9, 1, 4)},
		{Chan: gone("g", 4, 2, api.KMean, 1)},
		{Chan: on("m", 1, 2, api.KMean, 1), HasRest: true, Rest: 6},
		{Chan: on("q", 1, 1, api.KSquare, 4), HasRest: true},
	}
}

// toOne and toFive are those towards 1 and 5.
func toOne() []api.Item {
	l := baseItems()
	l[3].Reg, l[3].Rest = api.Reg{Ver: 1, Writer: 1, Flow: 5}, 1
	return l
}

func toFive() []api.Item {
	l := baseItems()
	l[0].Reg, l[0].Rest = api.Reg{Ver: 3, Writer: 5, Flow: -250}, 1000
	l[3].Reg, l[3].Rest = api.Reg{Ver: 1, Writer: 2, Flow: 7}, 13
	return l
}

// bare are Items of an Answer.
func bare(l []api.Item) []api.Item {
	for i := range l {
		l[i].HasRest, l[i].Rest = false, 0
	}
	return l
}

func TestP20_8Items(t *testing.T) {
	st := base()
	for peer, want := range map[int][]api.Item{1: toOne(), 5: toFive(), 0: baseItems(), 9: baseItems(), 2: baseItems(), 7: baseItems(), -1: baseItems(), 16: baseItems(), math.MaxInt: baseItems(), math.MinInt: baseItems()} {
		if got := Items(st, peer); !slices.Equal(got, want) {
			t.Errorf("towards %d: %+v, want %+v", peer, got, want)
		}
	}
	if got := Items(New(3, 1), 1); len(got) > 0 {
		t.Errorf("of a node without channels: %+v", got)
	}
	// A rest that leaves its range is not told; its register is.
	far := as(st, func(st *api.Node) { st.Chans[3].Input = most })
	want := toFive()
	want[3].HasRest, want[3].Rest = false, 0 // 1 takes -5
	if got := Items(far, 5); !slices.Equal(got, want) {
		t.Errorf("out of range: %+v, want %+v", got, want)
	}
	want = toOne()
	want[3].Rest = most - 7
	if got := Items(far, 1); !slices.Equal(got, want) {
		t.Errorf("within the range: %+v, want %+v", got, want)
	}
	// What is known of no extreme value is told as none.
	blank := as(st, func(st *api.Node) { st.Chans[1].Min, st.Chans[1].Max = none, none })
	want = toOne()
	want[1].Min, want[1].Max = none, none
	if got := Items(blank, 1); !slices.Equal(got, want) {
		t.Errorf("no extreme values: %+v, want %+v", got, want)
	}
}
