package node

import (
	"fmt"
	"math"
	"slices"
	"testing"

	"eddy/api"
)

// fromFive is a good packet from 5 to base, fromZero one from 0, to whom it holds no edge.
func fromFive(kind int, items ...api.Item) api.Packet {
	p := api.Packet{Kind: kind, From: 5, To: 2, Boot: 3, Life: 1, Echo: 7, EchoLife: 2, Items: items}
	if kind == api.PkHello {
		p.Echo, p.EchoLife = 0, 0
	}
	return p
}

func fromZero(kind int, items ...api.Item) api.Packet {
	p := fromFive(kind, items...)
	p.From, p.Boot, p.EchoLife = 0, 2, 1
	if kind == api.PkHello {
		p.EchoLife = 0
	}
	return p
}

// received gives base, or what has become of it, a packet, and holds what comes against what is wanted and the words.
func received(t *testing.T, what string, st api.Node, p api.Packet, do func(st *api.Node), packets []api.Packet, events ...api.Event) api.Node {
	t.Helper()
	want := as(st, do)
	got := check(t, st, act{call: "Receive", p: p})
	expect(t, what, got, came{want, packets, events, api.OK})
	return got.st
}

func nothing(*api.Node) {}

// passedOver gives base a packet that is passed over.
func passedOver(t *testing.T, what string, p api.Packet) {
	t.Helper()
	received(t, what, base(), p, nothing, nil, ignored(p)...)
}

func TestP20_4NotFit(t *testing.T) {
	item := api.Item{Chan: on("m", 1, 2, api.KMean, 1), Reg: api.Reg{Ver: 2, Writer: 5, Flow: 1}, HasRest: true, Rest: 20}
	for kind := api.PkHello; kind <= api.PkBye; kind++ {
		for what, spoil := range map[string]func(p *api.Packet){
			"no kind":               func(p *api.Packet) { p.Kind = 0 },
			"a kind beyond":         func(p *api.Packet) { p.Kind = 6 },
			"a kind far beyond":     func(p *api.Packet) { p.Kind = math.MaxInt },
			"a kind far below":      func(p *api.Packet) { p.Kind = math.MinInt },
			"from no node":          func(p *api.Packet) { p.From = 16 },
			"from below":            func(p *api.Packet) { p.From = -1 },
			"from far below":        func(p *api.Packet) { p.From = math.MinInt },
			"to no node":            func(p *api.Packet) { p.To = 18 },
			"boot 0":                func(p *api.Packet) { p.Boot = 0 },
			"boot beyond":           func(p *api.Packet) { p.Boot = last + 1 },
			"life below 0":          func(p *api.Packet) { p.Life = -1 },
			"life beyond":           func(p *api.Packet) { p.Life = last + 1 },
			"Echo beyond":           func(p *api.Packet) { p.Echo = last + 1 },
			"EchoLife below 0":      func(p *api.Packet) { p.EchoLife = -1 },
			"an Item that is none":  func(p *api.Packet) { p.Items = []api.Item{{}} },
			"an Item twice":         func(p *api.Packet) { p.Items = []api.Item{item, item} },
			"an Item of no epoch":   func(p *api.Packet) { x := item; x.Chan.Epoch = 0; p.Items = []api.Item{x} },
			"a rest beyond":         func(p *api.Packet) { x := item; x.Rest = most + 1; p.Items = []api.Item{x} },
			"a rest where none is":  func(p *api.Packet) { x := item; x.HasRest = false; p.Items = []api.Item{x} },
			"nine Items":            func(p *api.Packet) { p.Items = nine() },
			"one Item that is good": func(p *api.Packet) { p.Items = []api.Item{item, {Chan: on("n", 1, 1, 9, 1)}} },
		} {
			p := fromFive(kind)
			spoil(&p)
			passedOver(t, fmt.Sprint(what, ", kind ", kind), p)
		}
	}
	for _, kind := range []int{api.PkHello, api.PkWelcome, api.PkBye} {
		passedOver(t, "Items where none are", fromFive(kind, item))
	}
	p := fromFive(api.PkHello)
	p.Echo = 7
	passedOver(t, "a Hello with an Echo", p)
	p = fromFive(api.PkAsk)
	p.Echo = 0
	passedOver(t, "an Ask without an Echo", p)
}

func nine() []api.Item {
	var l []api.Item
	for _, n := range []string{"1", "2", "3", "4", "5", "6", "7", "8", "9"} {
		l = append(l, api.Item{Chan: gone(n, 1, 1, 1, 1)})
	}
	return l
}

func TestP20_4NotForThisNode(t *testing.T) {
	for kind := api.PkHello; kind <= api.PkBye; kind++ {
		for to := range 16 {
			p := fromFive(kind)
			if p.To = to; to != 2 {
				passedOver(t, "to another node", p)
			}
		}
		for from := range 16 {
			p := fromFive(kind)
			if p.From = from; !slices.Contains(base().Want, from) {
				passedOver(t, "from the node itself, or one that it does not want", p)
			}
		}
		st := New(2, 7)
		p := fromFive(kind)
		received(t, "nobody is wanted", st, p, nothing, nil, ignored(p)...)
		// One of which something was seen, but that is not wanted any more.
		st = as(base(), func(st *api.Node) { st.Want, st.Halves = []int{9, 0, 1}, st.Halves[:1] })
		received(t, "who is wanted no more", st, p, nothing, nil, ignored(p)...)
	}
}

// An incarnation that is earlier than the one that was seen is stale, whatever it says; so of a peer to whom no edge is
// held, and of one of which the half-edge names an earlier one.
func TestP20_4Stale(t *testing.T) {
	for kind := api.PkHello; kind <= api.PkBye; kind++ {
		for _, c := range []struct{ boot, life int64 }{{3, 0}, {2, 1}, {2, 9}, {1, last}} {
			p := fromFive(kind)
			p.Boot, p.Life = c.boot, c.life
			passedOver(t, "stale", p)
			st := as(base(), func(st *api.Node) { st.Halves[1].Boot, st.Halves[1].Life = 1, 0 })
			received(t, "stale, and later than is named", st, p, nothing, nil, ignored(p)...)
		}
		for _, c := range []struct{ boot, life int64 }{{2, 0}, {1, 1}, {1, last}} {
			p := fromZero(kind)
			p.Boot, p.Life = c.boot, c.life
			passedOver(t, "stale, and no edge is held", p)
		}
	}
}

// Echoes that are not the node's own incarnation towards the sender.
func echoes() []struct{ boot, life int64 } {
	return []struct{ boot, life int64 }{{7, 1}, {7, 3}, {7, 0}, {7, last}, {6, 2}, {8, 2}, {1, 2}, {last, 2}, {2, 7}}
}

func TestP20_4NotGood(t *testing.T) {
	incarnations := []struct{ boot, life int64 }{{3, 1}, {3, 2}, {4, 0}, {last, last}}
	for _, i := range incarnations {
		welcome := api.Packet{Kind: api.PkWelcome, From: 2, To: 5, Boot: 7, Life: 2, Echo: i.boot, EchoLife: i.life}
		p := fromFive(api.PkHello)
		p.Boot, p.Life = i.boot, i.life
		received(t, "a Hello", base(), p, nothing, []api.Packet{welcome})
		for _, e := range echoes() {
			for kind := api.PkWelcome; kind <= api.PkBye; kind++ {
				p := fromFive(kind)
				p.Boot, p.Life, p.Echo, p.EchoLife = i.boot, i.life, e.boot, e.life
				if kind == api.PkAsk {
					p.Items = []api.Item{{Chan: on("a", 9, 9, api.KMean, 1), HasRest: true, Rest: 20}, {Chan: on("m", 1, 2, api.KMean, 1), Reg: api.Reg{Ver: 9, Writer: 5}, HasRest: true, Rest: 20}}
					received(t, "an Ask that is not good", base(), p, nothing, []api.Packet{welcome})
				} else {
					passedOver(t, "not good", p)
				}
			}
		}
	}
	// Of a peer that was not seen, and of one to whom no edge is held.
	p := api.Packet{Kind: api.PkHello, From: 9, To: 2, Boot: 1}
	received(t, "a Hello of who was not seen", base(), p, nothing, []api.Packet{{Kind: api.PkWelcome, From: 2, To: 9, Boot: 7, Echo: 1}})
	p = fromZero(api.PkHello)
	received(t, "a Hello of who holds no edge", base(), p, nothing, []api.Packet{{Kind: api.PkWelcome, From: 2, To: 0, Boot: 7, Life: 1, Echo: 2, EchoLife: 1}})
}

// noted is that the incarnation of 5 was seen.
func noted(boot, life int64) func(st *api.Node) {
	return func(st *api.Node) { st.Seen[2].Boot, st.Seen[2].Life = boot, life }
}

func TestP20_4Welcome(t *testing.T) {
	p := fromFive(api.PkWelcome)
	st := base()
	received(t, "held: no misses any more", st, p, func(st *api.Node) { st.Halves[1].Misses = 0 }, nil)
	received(t, "held, nothing pending", as(st, func(st *api.Node) { st.Halves[1].Pending, st.Halves[1].Misses = false, 0 }), p, nothing, nil)
	for _, i := range []struct{ boot, life int64 }{{3, 2}, {4, 0}, {4, last}, {last, 0}} {
		p := fromFive(api.PkWelcome)
		p.Boot, p.Life = i.boot, i.life
		items := toFive()
		items[0].Reg, items[3].Reg = api.Reg{}, api.Reg{}
		ask := askFive(items)
		ask.Echo, ask.EchoLife = i.boot, i.life
		received(t, "an earlier one is named: it is held anew", st, p, func(st *api.Node) {
			noted(i.boot, i.life)(st)
			st.Halves[1] = api.Half{Peer: 5, Boot: i.boot, Life: i.life, Pending: true}
		}, []api.Packet{ask}, held(5, i.boot))
	}
	// The half-edge names an earlier one than was seen.
	received(t, "the one that was seen, an earlier one is named", as(st, func(st *api.Node) { st.Halves[1].Life = 0 }), p, func(st *api.Node) {
		st.Halves[1] = api.Half{Peer: 5, Boot: 3, Life: 1, Pending: true}
	}, []api.Packet{askFive(func() []api.Item {
		l := toFive()
		l[0].Reg, l[3].Reg = api.Reg{}, api.Reg{}
		return l
	}())}, held(5, 3))
	// No edge is held: of a peer that was seen, and of one that was not.
	ask := api.Packet{Kind: api.PkAsk, From: 2, To: 0, Boot: 7, Life: 1, Echo: 2, EchoLife: 1, Items: baseItems()}
	received(t, "not held", st, fromZero(api.PkWelcome), func(st *api.Node) {
		st.Halves = slices.Insert(st.Halves, 0, api.Half{Peer: 0, Boot: 2, Life: 1, Pending: true})
	}, []api.Packet{ask}, held(0, 2))
	ask = api.Packet{Kind: api.PkAsk, From: 2, To: 9, Boot: 7, Echo: 1, EchoLife: 6, Items: baseItems()}
	received(t, "not seen", st, api.Packet{Kind: api.PkWelcome, From: 9, To: 2, Boot: 1, Life: 6, Echo: 7}, func(st *api.Node) {
		st.Seen = append(st.Seen, api.Seen{Peer: 9, Boot: 1, Life: 6})
		st.Halves = append(st.Halves, api.Half{Peer: 9, Boot: 1, Life: 6, Pending: true})
	}, []api.Packet{ask}, held(9, 1))
}

// Whoever holds an edge anew asks: a rest that leaves its range is told behind EvHeld.
func TestP20_4HeldAnewOutOfRange(t *testing.T) {
	st := as(base(), func(st *api.Node) { st.Chans[3].Input = most })
	items := baseItems()
	items[3].HasRest, items[3].Rest = false, 0
	received(t, "a Welcome", st, fromZero(api.PkWelcome), func(st *api.Node) {
		st.Halves = slices.Insert(st.Halves, 0, api.Half{Peer: 0, Boot: 2, Life: 1, Pending: true})
	}, []api.Packet{{Kind: api.PkAsk, From: 2, To: 0, Boot: 7, Life: 1, Echo: 2, EchoLife: 1, Items: func() []api.Item {
		l := slices.Clone(items)
		l[3].HasRest, l[3].Rest = true, most-2 // 1 takes -5, 5 takes 7
		return l
	}()}}, held(0, 2))
	st.Halves[1].Lines = st.Halves[1].Lines[:1]
	received(t, "a Welcome, out of range", st, fromZero(api.PkWelcome), func(st *api.Node) {
		st.Halves = slices.Insert(st.Halves, 0, api.Half{Peer: 0, Boot: 2, Life: 1, Pending: true})
	}, []api.Packet{{Kind: api.PkAsk, From: 2, To: 0, Boot: 7, Life: 1, Echo: 2, EchoLife: 1, Items: items}}, held(0, 2), beyond(0, "m"))
}

func TestP20_4Bye(t *testing.T) {
	st := base()
	p := fromFive(api.PkBye)
	gone := received(t, "held", st, p, func(st *api.Node) {
		st.Halves, st.Seen[2].Mine = st.Halves[:1], 3
	}, nil, dropped(5, api.DropBye))
	if x, err := Estimate(gone, "m"); x != 13 || err != api.OK {
		t.Errorf("behind a Bye: %d, %d", x, err)
	}
	received(t, "once more: it is not good any more", gone, p, nothing, nil, ignored(p)...)
	for _, i := range []struct{ boot, life int64 }{{3, 2}, {4, 0}, {4, 1}} {
		p.Boot, p.Life = i.boot, i.life
		received(t, "an earlier one is named: seen, and passed over", st, p, noted(i.boot, i.life), nil, ignored(p)...)
	}
	p = fromFive(api.PkBye)
	received(t, "an earlier one is named than was seen", as(st, func(st *api.Node) { st.Halves[1].Life = 0 }), p, nothing, nil, ignored(p)...)
	received(t, "not held", st, fromZero(api.PkBye), nothing, nil, ignored(fromZero(api.PkBye))...)
	p = fromZero(api.PkBye)
	p.Life = 5
	received(t, "not held, of a later one", st, p, func(st *api.Node) { st.Seen[0].Life = 5 }, nil, ignored(p)...)
	p = api.Packet{Kind: api.PkBye, From: 9, To: 2, Boot: 4, Life: 1, Echo: 7}
	received(t, "not seen", st, p, func(st *api.Node) { st.Seen = append(st.Seen, api.Seen{Peer: 9, Boot: 4, Life: 1}) }, nil, ignored(p)...)
	st = as(st, func(st *api.Node) { st.Seen[2].Mine = last })
	p = fromFive(api.PkBye)
	p.EchoLife = last
	received(t, "the last life", st, p, func(st *api.Node) { st.Halves = st.Halves[:1] }, nil, dropped(5, api.DropBye))
}

// answerFive is base's Answer to 5, of the incarnation that it has.
func answerFive(items []api.Item) api.Packet {
	return api.Packet{Kind: api.PkAnswer, From: 2, To: 5, Boot: 7, Life: 2, Echo: 3, EchoLife: 1, Items: bare(items)}
}

func heard(st *api.Node) { st.Halves[1].Misses = 0 }

func answered(st *api.Node) { st.Halves[1].Pending, st.Halves[1].Misses = false, 0 }

func TestP20_4NoItems(t *testing.T) {
	st := base()
	received(t, "an Ask", st, fromFive(api.PkAsk), heard, []api.Packet{answerFive(toFive())})
	received(t, "an Answer", st, fromFive(api.PkAnswer), answered, nil)
	quiet := as(st, answered)
	received(t, "an Ask, nothing pending", quiet, fromFive(api.PkAsk), nothing, []api.Packet{answerFive(toFive())})
	received(t, "an Answer, nothing pending", quiet, fromFive(api.PkAnswer), nothing, nil)
	// Held anew: the Answer, and then an Ask; its own one only.
	zeroAnswer := api.Packet{Kind: api.PkAnswer, From: 2, To: 0, Boot: 7, Life: 1, Echo: 2, EchoLife: 1, Items: bare(baseItems())}
	zeroAsk := api.Packet{Kind: api.PkAsk, From: 2, To: 0, Boot: 7, Life: 1, Echo: 2, EchoLife: 1, Items: baseItems()}
	begun := func(st *api.Node) {
		st.Halves = slices.Insert(st.Halves, 0, api.Half{Peer: 0, Boot: 2, Life: 1, Pending: true})
	}
	received(t, "an Ask, not held", st, fromZero(api.PkAsk), begun, []api.Packet{zeroAnswer, zeroAsk}, held(0, 2))
	received(t, "an Answer, not held", st, fromZero(api.PkAnswer), begun, []api.Packet{zeroAsk}, held(0, 2))
	// An earlier one is named: its registers are gone.
	items := toFive()
	items[0].Reg, items[3].Reg = api.Reg{}, api.Reg{}
	for _, i := range []struct{ boot, life int64 }{{3, 2}, {4, 0}} {
		anew := func(st *api.Node) {
			noted(i.boot, i.life)(st)
			st.Halves[1] = api.Half{Peer: 5, Boot: i.boot, Life: i.life, Pending: true}
		}
		ask, answer := askFive(slices.Clone(items)), answerFive(slices.Clone(items))
		ask.Echo, ask.EchoLife, answer.Echo, answer.EchoLife = i.boot, i.life, i.boot, i.life
		p := fromFive(api.PkAsk)
		p.Boot, p.Life = i.boot, i.life
		received(t, "an Ask, an earlier one is named", st, p, anew, []api.Packet{answer, ask}, held(5, i.boot))
		p.Kind = api.PkAnswer
		received(t, "an Answer, an earlier one is named", st, p, anew, []api.Packet{ask}, held(5, i.boot))
	}
	// A node without channels.
	alone := as(New(2, 7), func(st *api.Node) { st.Want = []int{5} })
	p := api.Packet{Kind: api.PkAsk, From: 5, To: 2, Boot: 3, Echo: 7}
	received(t, "no channels", alone, p, func(st *api.Node) {
		st.Seen, st.Halves = []api.Seen{{Peer: 5, Boot: 3}}, []api.Half{{Peer: 5, Boot: 3, Pending: true}}
	}, []api.Packet{{Kind: api.PkAnswer, From: 2, To: 5, Boot: 7, Echo: 3}, {Kind: api.PkAsk, From: 2, To: 5, Boot: 7, Echo: 3}}, held(5, 3))
}
