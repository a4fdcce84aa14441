package node

import (
	"slices"
	"testing"

	"eddy/api"
)

// said5 is an Item of a channel that base has, by its place, as 5 may tell it.
func said5(at int, do func(x *api.Item)) api.Item {
	x := api.Item{Chan: base().Chans[at].Chan}
	do(&x)
	return x
}

// m, with a register and a rest, and with a register alone.
func mAsk(ver int64, writer int, flow, rest int64) api.Item {
	return said5(3, func(x *api.Item) {
		x.Reg, x.HasRest, x.Rest = api.Reg{Ver: ver, Writer: writer, Flow: flow}, true, rest
	})
}

func mAnswer(ver int64, writer int, flow int64) api.Item {
	return said5(3, func(x *api.Item) { x.Reg = api.Reg{Ver: ver, Writer: writer, Flow: flow} })
}

// A record that is known, in whatever form, and one that is older, are no news: nobody is asked.
func TestP20_4NoNews(t *testing.T) {
	var known, older []api.Item
	for _, s := range base().Chans {
		known = append(known, api.Item{Chan: s.Chan})
		old := s.Chan
		if old.Maker++; old.Epoch > 1 {
			old.Epoch, old.Maker = old.Epoch-1, 0
		}
		older = append(older, api.Item{Chan: old})
	}
	other := func(i int, do func(c *api.Chan)) []api.Item {
		l := slices.Clone(known)
		do(&l[i].Chan)
		return l
	}
	for what, items := range map[string][]api.Item{
		"known": known, "older": older, "one of them": known[2:3],
		"of one epoch, of a greater maker": other(0, func(c *api.Chan) { c.Maker = 15 }),
		"of one stamp, not alive":          other(3, func(c *api.Chan) { c.Alive = false }),
		"of one stamp, alive":              other(2, func(c *api.Chan) { c.Alive = true }),
		"of one stamp, of another kind":    other(4, func(c *api.Chan) { c.Kind, c.Scale = api.KExt, 1 }),
		"of one stamp, of another scale":   other(3, func(c *api.Chan) { c.Scale = 2 }),
	} {
		received(t, "an Ask, "+what, base(), fromFive(api.PkAsk, items...), heard, []api.Packet{answerFive(toFive())})
		received(t, "an Answer, "+what, base(), fromFive(api.PkAnswer, items...), answered, nil)
	}
}

// A record that is newer, or new: the channel begins anew, its registers on all half-edges too; all are asked.
func TestP20_4News(t *testing.T) {
	for _, c := range []struct {
		what string
		c    api.Chan
		at   int // the place of its state, among base's
		new  bool
	}{
		{"a greater epoch", on("m", 2, 9, api.KMean, 1), 3, false},
		{"a greater epoch, of another kind", on("m", 2, 2, api.KExt, 1), 3, false},
		{"a greater epoch, of another scale", on("m", last, 0, api.KSquare, mostScale), 3, false},
		{"of one epoch, a smaller maker", on("m", 1, 1, api.KMean, 1), 3, false},
		{"a smaller maker, not alive", gone("m", 1, 0, api.KMean, 1), 3, false},
		{"a greater epoch, not alive", gone("m", 5, 5, api.KMean, 1), 3, false},
		{"KExt anew", on("e", 2, 5, api.KExt, 1), 1, false},
		{"KExt that flows", on("e", 2, 5, api.KCount, 10), 1, false},
		{"KCount anew", on("c", 3, 1, api.KCount, 1000), 0, false},
		{"what was not alive", on("g", 5, 2, api.KMean, 1), 2, false},
		{"what was not alive, again not", gone("g", 5, 2, api.KMean, 1), 2, false},
		{"new, the first one", on("a", 1, 5, api.KMean, 3), 0, true},
		{"new, between", on("k", 4, 5, api.KExt, 1), 3, true},
		{"new, the last one, not alive", gone("z", 4, 5, api.KCount, 1), 5, true},
	} {
		for kind := api.PkAsk; kind <= api.PkAnswer; kind++ {
			st := as(base(), func(st *api.Node) { // with a register of c for 1 too, so that a name's are gone at both
				st.Halves[0].Lines = []api.Line{line("c", 4, 2, 9), line("m", 1, 1, 5)}
			})
			want := as(st, func(st *api.Node) {
				if c.new {
					st.Chans = slices.Insert(st.Chans, c.at, api.State{Chan: c.c})
				}
				st.Chans[c.at] = api.State{Chan: c.c}
				for i := range st.Halves {
					st.Halves[i].Lines = slices.DeleteFunc(st.Halves[i].Lines, func(l api.Line) bool { return l.Name == c.c.Name })
					st.Halves[i].Pending, st.Halves[i].Misses = true, 0
				}
			})
			packets := []api.Packet{askOne(sayItems(want, 1)), askFive(sayItems(want, 5))}
			if kind == api.PkAsk {
				packets = slices.Insert(packets, 0, answerFive(sayItems(want, 5)))
			}
			got := check(t, st, act{call: "Receive", p: fromFive(kind, api.Item{Chan: c.c})})
			expect(t, c.what, got, came{want, packets, []api.Event{learned(c.c.Name, c.c.Epoch)}, api.OK})
		}
	}
}

func sayItems(st api.Node, peer int) []api.Item {
	l, _ := say(st).items(peer, true)
	return l
}

// What there is no room for is passed over, and what is behind it is not.
func TestP20_4NoRoom(t *testing.T) {
	full := as(base(), func(st *api.Node) {
		st.Chans = append(st.Chans, api.State{Chan: gone("r", 1, 1, 1, 1)}, api.State{Chan: gone("s", 1, 1, 1, 1)}, api.State{Chan: gone("t", 1, 1, 1, 1)})
	})
	noRoom := api.Item{Chan: on("b", 9, 9, api.KMean, 1), Reg: api.Reg{Ver: 1, Writer: 5, Flow: 3}, HasRest: true, Rest: 20}
	received(t, "no room", full, fromFive(api.PkAsk, noRoom), heard, []api.Packet{answerFive(sayItems(full, 5))})
	received(t, "no room, and what is there is merged", full, fromFive(api.PkAnswer, noRoom, mAnswer(2, 5, 4)), func(st *api.Node) {
		answered(st)
		st.Halves[1].Lines[1] = line("m", 2, 5, 4)
	}, nil)
	// Room for one: the first one has it.
	seven := as(full, func(st *api.Node) { st.Chans = st.Chans[:7] })
	got := check(t, seven, act{call: "Receive", p: fromFive(api.PkAnswer, noRoom, api.Item{Chan: on("d", 9, 9, api.KMean, 1)})})
	if !slices.Equal(got.events, []api.Event{learned("b", 9)}) || len(got.st.Chans) != 8 || got.st.Chans[0].Chan.Name != "b" || len(got.packets) != 2 {
		t.Errorf("room for one: %+v", got)
	}
}

// Several records: told in order, each with its epoch; asked is once.
func TestP20_4SeveralNews(t *testing.T) {
	p := fromFive(api.PkAsk, api.Item{Chan: on("a", 3, 5, api.KExt, 1), Min: of(-5, 5, 1)}, api.Item{Chan: on("b", 9, 5, api.KMean, 1), HasRest: true, Rest: 7},
		api.Item{Chan: gone("c", 2, 5, api.KCount, 1000)}, api.Item{Chan: gone("c0", 4, 5, api.KCount, 1000)}, mAsk(0, 0, 0, 13), api.Item{Chan: on("q", 2, 5, api.KSquare, 4), HasRest: true, Rest: -9})
	want := as(base(), func(st *api.Node) {
		s := []api.State{{Chan: p.Items[0].Chan, Min: of(-5, 5, 1)}, {Chan: p.Items[1].Chan}, st.Chans[0], {Chan: p.Items[3].Chan}}
		st.Chans = append(s, st.Chans[1:]...)
		st.Chans[7] = api.State{Chan: p.Items[5].Chan}
		st.Halves[0].Pending, st.Halves[1].Misses = true, 0
		// m: the estimates are 13 - 7 and 13 + 7, so 7 come over.
		st.Halves[1].Lines = []api.Line{line("b", 1, 2, -3), st.Halves[1].Lines[0], line("m", 2, 2, 0), line("q", 1, 2, 4)}
	})
	packets := []api.Packet{answerFive(sayItems(want, 5)), askOne(sayItems(want, 1)), askFive(sayItems(want, 5))}
	events := []api.Event{learned("a", 3), learned("b", 9), learned("c0", 4), learned("q", 2), balanced(5, "b", 3), balanced(5, "m", 7), balanced(5, "q", -4)}
	got := check(t, base(), act{call: "Receive", p: p})
	expect(t, "several", got, came{want, packets, events, api.OK})
}

// News on an edge that is held anew: all that are held are asked, that one too, each once and in order.
func TestP20_4NewsOnANewEdge(t *testing.T) {
	news := api.Item{Chan: on("z", 1, 0, api.KMean, 1), HasRest: true, Rest: 8}
	for kind := api.PkAsk; kind <= api.PkAnswer; kind++ {
		p := fromZero(kind, news)
		if kind == api.PkAnswer {
			p.Items[0].HasRest, p.Items[0].Rest = false, 0
		}
		want := as(base(), func(st *api.Node) {
			st.Chans = append(st.Chans, api.State{Chan: news.Chan})
			st.Halves = slices.Insert(st.Halves, 0, api.Half{Peer: 0, Boot: 2, Life: 1, Pending: true})
			st.Halves[1].Pending = true
		})
		events := []api.Event{held(0, 2), learned("z", 1)}
		if kind == api.PkAsk {
			want.Halves[0].Lines = []api.Line{line("z", 1, 2, 4)} // from 0 to 2
			events = append(events, balanced(0, "z", 4))
		}
		zero := api.Packet{Kind: api.PkAsk, From: 2, To: 0, Boot: 7, Life: 1, Echo: 2, EchoLife: 1, Items: sayItems(want, 0)}
		packets := []api.Packet{zero, askOne(sayItems(want, 1)), askFive(sayItems(want, 5))}
		if kind == api.PkAsk {
			answer := zero
			answer.Kind, answer.Items = api.PkAnswer, bare(sayItems(want, 0))
			packets = slices.Insert(packets, 0, answer)
		}
		got := check(t, base(), act{call: "Receive", p: p})
		expect(t, "news on a new edge", got, came{want, packets, events, api.OK})
	}
}

// Registers, by an Answer: nothing is balanced.
func TestP20_4Registers(t *testing.T) {
	for _, c := range []struct {
		what string
		x    api.Item
		is   api.Reg
	}{
		{"newer", mAnswer(2, 5, 4), api.Reg{Ver: 2, Writer: 5, Flow: 4}},
		{"newer by far", mAnswer(last, 2, -most), api.Reg{Ver: last, Writer: 2, Flow: -most}},
		{"the same", mAnswer(1, 2, 7), api.Reg{Ver: 1, Writer: 2, Flow: 7}},
		{"of one version, of a greater writer", mAnswer(1, 5, 4), api.Reg{Ver: 1, Writer: 2, Flow: 7}},
		{"of one stamp, another flow", mAnswer(1, 2, 4), api.Reg{Ver: 1, Writer: 2, Flow: 7}},
		{"the zero one", mAnswer(0, 0, 0), api.Reg{Ver: 1, Writer: 2, Flow: 7}},
		{"of another edge", mAnswer(2, 1, 4), api.Reg{Ver: 1, Writer: 2, Flow: 7}},
		{"of another edge, far newer", mAnswer(last, 15, 4), api.Reg{Ver: 1, Writer: 2, Flow: 7}},
		{"of another instance", said5(3, func(x *api.Item) { x.Chan.Maker, x.Reg = 3, api.Reg{Ver: 2, Writer: 5, Flow: 4} }), api.Reg{Ver: 1, Writer: 2, Flow: 7}},
	} {
		received(t, c.what, base(), fromFive(api.PkAnswer, c.x), func(st *api.Node) {
			answered(st)
			st.Halves[1].Lines[1].Reg = c.is
		}, nil)
	}
	older := as(base(), func(st *api.Node) { st.Halves[1].Lines[1].Reg = api.Reg{Ver: 3, Writer: 5, Flow: 7} })
	for _, c := range []struct {
		x  api.Item
		is api.Reg
	}{{mAnswer(2, 2, 4), api.Reg{Ver: 3, Writer: 5, Flow: 7}}, {mAnswer(3, 2, 4), api.Reg{Ver: 3, Writer: 2, Flow: 4}}, {mAnswer(4, 5, 0), api.Reg{Ver: 4, Writer: 5}}} {
		received(t, "where 3 5 is", older, fromFive(api.PkAnswer, c.x), func(st *api.Node) {
			answered(st)
			st.Halves[1].Lines[1].Reg = c.is
		}, nil)
	}
	// Where no register was: it has a line then. A Rest in an Answer moves nothing.
	q := said5(4, func(x *api.Item) { x.Reg, x.HasRest, x.Rest = api.Reg{Ver: 1, Writer: 5, Flow: 6}, true, 1000 })
	received(t, "an Answer with a Rest", base(), fromFive(api.PkAnswer, q), func(st *api.Node) {
		answered(st)
		st.Halves[1].Lines = append(st.Halves[1].Lines, line("q", 1, 5, 6))
	}, nil)
	// A record that says otherwise of the kind, of the same instance: the own one holds.
	received(t, "KExt, where the own one flows", base(), fromFive(api.PkAnswer, said5(3, func(x *api.Item) { x.Chan.Kind, x.Min, x.Max = api.KExt, of(-99, 5, 0), of(99, 5, 0) })), answered, nil)
	received(t, "flows, where the own one is KExt", base(), fromFive(api.PkAnswer, said5(1, func(x *api.Item) { x.Chan.Kind, x.Reg = api.KMean, api.Reg{Ver: 4, Writer: 5, Flow: 4} })), answered, nil)
	received(t, "of another kind that flows", base(), fromFive(api.PkAnswer, said5(3, func(x *api.Item) {
		x.Chan.Kind, x.Chan.Scale, x.Reg = api.KSquare, 5, api.Reg{Ver: 4, Writer: 5, Flow: 4}
	})), func(st *api.Node) {
		answered(st)
		st.Halves[1].Lines[1] = line("m", 4, 5, 4)
	}, nil)
}

// Extreme values, by an Ask and by an Answer.
func TestP20_4Extremes(t *testing.T) {
	for _, c := range []struct {
		what                string
		least, greatest     api.Ext
		isLeast, isGreatest api.Ext
	}{
		{"none", none, none, of(-3, 2, 0), of(9, 1, 4)},
		{"beyond both", of(-4, 5, 3), of(10, 6, 63), of(-4, 5, 3), of(10, 6, 63)},
		{"within both", of(-2, 5, 3), of(8, 6, 0), of(-3, 2, 0), of(9, 1, 4)},
		{"of the node itself", of(-4, 2, 3), of(10, 2, 0), of(-3, 2, 0), of(9, 1, 4)},
		{"the same, younger", of(-3, 5, 0), of(9, 1, 3), of(-3, 2, 0), of(9, 1, 3)},
		{"the same, older", of(-3, 1, 5), of(9, 1, 5), of(-3, 2, 0), of(9, 1, 4)},
		{"the same, of a smaller origin", of(-3, 1, 0), of(9, 0, 4), of(-3, 1, 0), of(9, 0, 4)},
		{"at the ends", of(-most, 15, 0), of(most, 15, 0), of(-most, 15, 0), of(most, 15, 0)},
	} {
		x := said5(1, func(x *api.Item) { x.Min, x.Max = c.least, c.greatest })
		is := func(st *api.Node) { st.Chans[1].Min, st.Chans[1].Max = c.isLeast, c.isGreatest }
		received(t, "an Answer, "+c.what, base(), fromFive(api.PkAnswer, x), func(st *api.Node) { answered(st); is(st) }, nil)
		items := toFive()
		items[1].Min, items[1].Max = c.isLeast, c.isGreatest
		received(t, "an Ask, "+c.what, base(), fromFive(api.PkAsk, x), func(st *api.Node) { heard(st); is(st) }, []api.Packet{answerFive(items)})
		x.Chan.Epoch++ // of a newer instance what is told counts for that
		fresh := check(t, base(), act{call: "Receive", p: fromFive(api.PkAnswer, x)})
		least, greatest := c.least, c.greatest
		if least.Origin == 2 {
			least, greatest = none, none
		}
		if want := (api.State{Chan: x.Chan, Min: least, Max: greatest}); fresh.st.Chans[1] != want {
			t.Errorf("learned, %s: %+v, want %+v", c.what, fresh.st.Chans[1], want)
		}
	}
}

// The balance of m at base, to whose edge to 5 the register 1 2 7 belongs: base's rest towards 5 is 13, its estimate 6;
// what 5 tells as its rest is 7 less than its estimate.
func TestP20_4Balance(t *testing.T) {
	answer := func(ver int64, writer int, flow int64) []api.Packet {
		items := toFive()
		items[3].Reg = api.Reg{Ver: ver, Writer: writer, Flow: flow}
		return []api.Packet{answerFive(items)}
	}
	is := func(ver int64, writer int, flow int64) func(st *api.Node) {
		return func(st *api.Node) { heard(st); st.Halves[1].Lines[1] = line("m", ver, writer, flow) }
	}
	for _, c := range []struct {
		what   string
		x      api.Item
		amount int64 // what goes to base
		reg    api.Reg
	}{
		{"even", mAsk(1, 2, 7, -1), 0, api.Reg{Ver: 1, Writer: 2, Flow: 7}},
		{"1 more", mAsk(1, 2, 7, 0), 0, api.Reg{Ver: 1, Writer: 2, Flow: 7}},
		{"1 less", mAsk(1, 2, 7, -2), 0, api.Reg{Ver: 1, Writer: 2, Flow: 7}},
		{"2 more", mAsk(1, 2, 7, 1), 1, api.Reg{Ver: 2, Writer: 2, Flow: 6}},
		{"2 less", mAsk(1, 2, 7, -3), -1, api.Reg{Ver: 2, Writer: 2, Flow: 8}},
		{"11 more", mAsk(1, 2, 7, 10), 5, api.Reg{Ver: 2, Writer: 2, Flow: 2}},
		{"11 less", mAsk(1, 2, 7, -12), -5, api.Reg{Ver: 2, Writer: 2, Flow: 12}},
		{"the zero register is told", mAsk(0, 0, 0, 10), 5, api.Reg{Ver: 2, Writer: 2, Flow: 2}},
		{"a newer register is told, even by that", mAsk(2, 5, 0, 13), 0, api.Reg{Ver: 2, Writer: 5}},
		{"a newer register is told, odd by that", mAsk(4, 5, 1, 13), 1, api.Reg{Ver: 5, Writer: 2}},
		{"an older register is told", mAsk(1, 5, 100, 10), 5, api.Reg{Ver: 2, Writer: 2, Flow: 2}},
		{"a register of another edge is told", mAsk(9, 9, 100, 10), 5, api.Reg{Ver: 2, Writer: 2, Flow: 2}},
		{"no Rest", mAnswer(1, 2, 7), 0, api.Reg{Ver: 1, Writer: 2, Flow: 7}},
		{"no Rest, a newer register", mAnswer(2, 5, 3), 0, api.Reg{Ver: 2, Writer: 5, Flow: 3}},
	} {
		var events []api.Event
		if c.amount != 0 {
			events = []api.Event{balanced(5, "m", c.amount)}
		}
		received(t, c.what, base(), fromFive(api.PkAsk, c.x), is(c.reg.Ver, c.reg.Writer, c.reg.Flow), answer(c.reg.Ver, c.reg.Writer, c.reg.Flow), events...)
	}
	// On the edge to a lower node the flow goes the other way. 1's register 1 1 5 takes -5 from 2.
	p := api.Packet{Kind: api.PkAsk, From: 1, To: 2, Boot: 4, Echo: 7, Items: []api.Item{mAsk(1, 1, 5, 15)}}
	one := func(ver int64, writer int, flow int64) []api.Packet {
		items := toOne()
		items[3].Reg = api.Reg{Ver: ver, Writer: writer, Flow: flow}
		return []api.Packet{{Kind: api.PkAnswer, From: 2, To: 1, Boot: 7, Echo: 4, Items: bare(items)}}
	}
	// The estimates are 1 + 5 and 15 - 5: 2 come over.
	received(t, "of 1", base(), p, func(st *api.Node) { st.Halves[0].Lines[0] = line("m", 2, 2, 7) }, one(2, 2, 7), balanced(1, "m", 2))
	p.Items[0].Rest = 0
	received(t, "of 1, back", base(), p, func(st *api.Node) { st.Halves[0].Lines[0] = line("m", 2, 2, 0) }, one(2, 2, 0), balanced(1, "m", -5))
}

// Where a number leaves its range nothing is moved, and that is told; what was merged is.
func TestP20_4BalanceOutOfRange(t *testing.T) {
	merged := func(ver, flow int64) func(st *api.Node) {
		return func(st *api.Node) { heard(st); st.Halves[1].Lines[1] = line("m", ver, 5, flow) }
	}
	for _, c := range []struct {
		what string
		do   func(st *api.Node)
		x    api.Item
		is   func(st *api.Node)
	}{
		{"the own rest, above", func(st *api.Node) { st.Chans[3].Input = most }, mAsk(2, 5, 0, 10), merged(2, 0)},
		{"the own rest, below", func(st *api.Node) { st.Chans[3].Input, st.Halves[0].Lines[0].Reg.Flow = -most, -1 }, mAsk(2, 5, 0, 10), merged(2, 0)},
		{"the own estimate, above", func(st *api.Node) { st.Chans[3].Input = most - 5 }, mAsk(2, 5, -1, most), merged(2, -1)},
		{"the own estimate, below", func(st *api.Node) { st.Chans[3].Input = 1 - most }, mAsk(2, 5, 7, -most), merged(2, 7)},
		{"the other estimate, above", nothing, mAsk(2, 5, 1, most), merged(2, 1)},
		{"the other estimate, below", nothing, mAsk(2, 5, -1, -most), merged(2, -1)},
		{"the version", nothing, mAsk(last, 5, 7, 10), merged(last, 7)},
	} {
		st := as(base(), c.do)
		want := as(st, c.is)
		answer := answerFive(sayItems(want, 5))
		got := check(t, st, act{call: "Receive", p: fromFive(api.PkAsk, c.x)})
		expect(t, c.what, got, came{want, []api.Packet{answer}, []api.Event{beyond(5, "m")}, api.OK})
	}
	// With the last version nothing is told where nothing is to be moved.
	received(t, "the version, even", base(), fromFive(api.PkAsk, mAsk(last, 5, 7, -1)), merged(last, 7), []api.Packet{func() api.Packet {
		items := toFive()
		items[3].Reg = api.Reg{Ver: last, Writer: 5, Flow: 7}
		return answerFive(items)
	}()})
	// At the ends of the range it is moved.
	for _, sign := range []int64{1, -1} {
		st := as(base(), func(st *api.Node) { st.Chans[3].Input, st.Halves[0].Lines = -sign*most, nil })
		got := check(t, st, act{call: "Receive", p: fromFive(api.PkAsk, mAsk(2, 5, 0, sign*most))})
		if !slices.Equal(got.events, []api.Event{balanced(5, "m", sign*most)}) || got.st.Halves[1].Lines[1] != line("m", 3, 2, -sign*most) {
			t.Errorf("at the ends: %+v", got)
		}
	}
	// The last version but one is no hindrance.
	got := check(t, base(), act{call: "Receive", p: fromFive(api.PkAsk, mAsk(last-1, 5, 7, 10))})
	if !slices.Equal(got.events, []api.Event{balanced(5, "m", 5)}) || got.st.Halves[1].Lines[1] != line("m", last, 2, 2) {
		t.Errorf("the last version but one: %+v", got)
	}
}

// Several Items: each is balanced on what is so by then, in order, and one out of its range does not hinder others.
func TestP20_4BalanceOfSeveral(t *testing.T) {
	st := as(base(), func(st *api.Node) { st.Chans[3].Input = most })
	c := said5(0, func(x *api.Item) { x.Reg, x.HasRest, x.Rest = api.Reg{Ver: 3, Writer: 5, Flow: -250}, true, 0 })
	e := said5(1, func(x *api.Item) { x.Max = of(10, 5, 0) })
	q := said5(4, func(x *api.Item) { x.HasRest, x.Rest = true, 40 })
	// c: 1000 + 250 and 0 - 250, so 750 go to 5.
	want := as(st, func(st *api.Node) {
		heard(st)
		st.Chans[1].Max = of(10, 5, 0)
		st.Halves[1].Lines = []api.Line{line("c", 4, 2, 500), line("m", 1, 2, 7), line("q", 1, 2, -20)}
	})
	got := check(t, st, act{call: "Receive", p: fromFive(api.PkAsk, c, e, mAsk(0, 0, 0, 10), q)})
	expect(t, "several", got, came{want, []api.Packet{answerFive(sayItems(want, 5))}, []api.Event{balanced(5, "c", -750), beyond(5, "m"), balanced(5, "q", 20)}, api.OK})
}

// What is learned is balanced at once; the Ask behind it tells of rests that leave their range.
func TestP20_4LearnedAndOutOfRange(t *testing.T) {
	st := as(base(), func(st *api.Node) { st.Chans[3].Input = most })
	news := api.Item{Chan: on("n", 1, 5, api.KMean, 1), HasRest: true, Rest: 9}
	got := check(t, st, act{call: "Receive", p: fromFive(api.PkAsk, news)})
	want := as(st, func(st *api.Node) {
		st.Chans = slices.Insert(st.Chans, 4, api.State{Chan: news.Chan})
		st.Halves[0].Pending, st.Halves[1].Misses = true, 0
		st.Halves[1].Lines = append(st.Halves[1].Lines, line("n", 1, 2, -4))
	})
	expect(t, "news, and m out of range towards 5", got, came{want, []api.Packet{answerFive(sayItems(want, 5)), askOne(sayItems(want, 1)), askFive(sayItems(want, 5))},
		[]api.Event{learned("n", 1), balanced(5, "n", 4), beyond(5, "m")}, api.OK})
}
