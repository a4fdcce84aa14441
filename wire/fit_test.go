package wire

import (
	"math"
	"slices"
	"strings"
	"testing"

	"eddy/api"
)

const (
	least    = math.MinInt64
	greatest = math.MaxInt64
)

// flow is an item of a kind with flows, ext one of extreme values, dead one that is not Alive; each has all that it may have.
func flow(name string) api.Item {
	return api.Item{Chan: api.Chan{Name: name, Epoch: 7, Maker: 3, Alive: true, Kind: api.KMean, Scale: 4}, Reg: api.Reg{Ver: 1, Writer: 2, Flow: -7}, HasRest: true, Rest: 9}
}

func ext(name string) api.Item {
	return api.Item{Chan: api.Chan{Name: name, Epoch: 7, Maker: 3, Alive: true, Kind: api.KExt, Scale: 1}, Min: api.Ext{Has: true, Value: -3, Origin: 4, Age: 5}, Max: api.Ext{Has: true, Value: 8, Origin: 9, Age: 10}}
}

func dead(name string) api.Item {
	return api.Item{Chan: api.Chan{Name: name, Epoch: 7, Maker: 3, Kind: api.KCount, Scale: 1000}}
}

// bare is a record that is Alive, and nothing else.
func bare(name string, kind int) api.Item {
	return api.Item{Chan: api.Chan{Name: name, Epoch: 1, Alive: true, Kind: kind, Scale: 1}}
}

func hello() api.Packet { return api.Packet{Kind: api.PkHello, From: 3, To: 5, Boot: 300} }

func packet(kind int, l ...api.Item) api.Packet {
	return api.Packet{Kind: kind, From: 0, To: 1, Boot: 2, Life: 3, Echo: 4, EchoLife: 5, Items: l}
}

// with is an item, changed.
func with(x api.Item, change func(x *api.Item)) api.Item {
	change(&x)
	return x
}

// as is a packet, changed; its Items are its own.
func as(p api.Packet, change func(p *api.Packet)) api.Packet {
	p.Items = slices.Clone(p.Items)
	change(&p)
	return p
}

// named are n items whose names rise.
func named(n int) []api.Item {
	var l []api.Item
	for i := range n {
		l = append(l, dead(string([]byte{'a' + byte(i/26), 'a' + byte(i%26)})))
	}
	return l
}

type nameCase struct {
	name string
	want bool
}

// names are some that are names, and some that are not.
func names() []nameCase {
	return []nameCase{
		{"", false}, {"m", true}, {"_", true}, {"0", true}, {"9", true}, {"a", true}, {"z", true}, {"a_0z9", true}, {"__", true}, {"00", true},
		{strings.Repeat("a", api.MaxName-1), true}, {strings.Repeat("a", api.MaxName), true}, {strings.Repeat("a", api.MaxName+1), false}, {strings.Repeat("_", api.MaxName+1), false}, {strings.Repeat("a", 300), false},
		{"M", false}, {"a b", false}, {" a", false}, {"a ", false}, {"a-b", false}, {"a.b", false}, {"aB", false}, {"a\x00", false}, {"\x00", false}, {"\xff", false}, {"é", false}, {"a\n", false}, {"ａ", false}, {"a\xe9", false},
	}
}

// nameCases are names with every byte at its ends, and between, of every length.
func nameCases() []nameCase {
	l := names()
	const letters = "abcdefghijklmnopqrstuvwxyz0123456789_"
	for c := range 256 {
		one, is := string([]byte{byte(c)}), strings.Contains(letters, string(rune(c)))
		for n := range api.MaxName {
			l = append(l, nameCase{strings.Repeat("q", n) + one, is}, nameCase{one + strings.Repeat("7", n), is})
		}
		l = append(l, nameCase{strings.Repeat("q", 7) + one + strings.Repeat("_", 8), is}, nameCase{strings.Repeat("q", api.MaxName) + one, false}, nameCase{one + strings.Repeat("q", api.MaxName), false})
	}
	return l
}

type itemCase struct {
	name string
	item api.Item
	want bool
}

type span struct {
	least, greatest int64
}

// beside are the ends of a range, what lies beside them, and far away.
func (s span) beside() []int64 {
	return []int64{least, least + 1, s.least - 1, s.least, s.least + 1, s.greatest - 1, s.greatest, s.greatest + 1, 1 << 32, 1<<32 + 1, 1<<56 + s.least, greatest - 1, greatest}
}

func (s span) has(x int64) bool { return x >= s.least && x <= s.greatest }

// edges are items in which one number lies at an end of its range, or beside it.
func edges(name string, x api.Item, s span, put func(x *api.Item, n int64)) []itemCase {
	var l []itemCase
	for _, n := range s.beside() {
		l = append(l, itemCase{name, with(x, func(x *api.Item) { put(x, n) }), s.has(n)})
	}
	return l
}

func recordCases() []itemCase {
	var l []itemCase
	for _, base := range []api.Item{flow("m"), ext("m"), dead("m"), bare("m", api.KSquare), bare("m", api.KExt)} {
		l = append(l, itemCase{"base", base, true}, itemCase{"no name", with(base, func(x *api.Item) { x.Chan.Name = "" }), false})
		for _, c := range names() {
			l = append(l, itemCase{"name", with(base, func(x *api.Item) { x.Chan.Name = c.name }), c.want})
		}
		l = append(l, edges("epoch", base, span{1, 1 << 40}, func(x *api.Item, n int64) { x.Chan.Epoch = n })...)
		l = append(l, edges("maker", base, span{0, 15}, func(x *api.Item, n int64) { x.Chan.Maker = int(n) })...)
		scales := span{1, 1 << 20}
		if base.Chan.Kind == api.KExt {
			scales.greatest = 1
		}
		l = append(l, edges("scale", base, scales, func(x *api.Item, n int64) { x.Chan.Scale = n })...)
	}
	l = append(l, edges("kind, dead", with(dead("m"), func(x *api.Item) { x.Chan.Scale = 1 }), span{1, 4}, func(x *api.Item, n int64) { x.Chan.Kind = int(n) })...)
	l = append(l, edges("kind, bare", bare("m", api.KMean), span{1, 4}, func(x *api.Item, n int64) { x.Chan.Kind = int(n) })...)
	l = append(l, edges("kind, of flows", flow("m"), span{1, 3}, func(x *api.Item, n int64) { x.Chan.Kind = int(n) })...)
	l = append(l, edges("kind, of extremes", ext("m"), span{4, 4}, func(x *api.Item, n int64) { x.Chan.Kind = int(n) })...)
	return append(l,
		itemCase{"nothing", api.Item{}, false},
		itemCase{"a dead one of extremes", with(dead("m"), func(x *api.Item) { x.Chan.Kind, x.Chan.Scale = api.KExt, 1 }), true},
		itemCase{"a dead one of extremes with a scale", with(dead("m"), func(x *api.Item) { x.Chan.Kind, x.Chan.Scale = api.KExt, 2 }), false},
		itemCase{"flows of one that is dead", with(flow("m"), func(x *api.Item) { x.Chan.Alive = false }), false},
		itemCase{"extremes of one that is dead", with(ext("m"), func(x *api.Item) { x.Chan.Alive = false }), false},
	)
}

func flowCases() []itemCase {
	flows := span{-(1<<31 - 1), 1<<31 - 1}
	var l []itemCase
	for _, kind := range []int{api.KMean, api.KCount, api.KSquare} {
		full, none := with(flow("m"), func(x *api.Item) { x.Chan.Kind = kind }), bare("m", kind)
		l = append(l, edges("version", full, span{1, 1 << 40}, func(x *api.Item, n int64) { x.Reg.Ver = n })...)
		l = append(l, edges("writer", full, span{0, 15}, func(x *api.Item, n int64) { x.Reg.Writer = int(n) })...)
		l = append(l, edges("flow", full, flows, func(x *api.Item, n int64) { x.Reg.Flow = n })...)
		l = append(l, edges("rest", full, flows, func(x *api.Item, n int64) { x.Rest = n })...)
		l = append(l, edges("version alone", none, span{0, 1 << 40}, func(x *api.Item, n int64) { x.Reg.Ver = n })...)
		l = append(l, edges("writer alone", none, span{0, 0}, func(x *api.Item, n int64) { x.Reg.Writer = int(n) })...)
		l = append(l, edges("flow alone", none, span{0, 0}, func(x *api.Item, n int64) { x.Reg.Flow = n })...)
		l = append(l, edges("rest that is not set", none, span{0, 0}, func(x *api.Item, n int64) { x.Rest = n })...)
		l = append(l,
			itemCase{"the zero register beside a rest", with(full, func(x *api.Item) { x.Reg = api.Reg{} }), true},
			itemCase{"a register without a rest", with(full, func(x *api.Item) { x.HasRest, x.Rest = false, 0 }), true},
			itemCase{"a rest that is not set, beside a register", with(full, func(x *api.Item) { x.HasRest = false }), false},
			itemCase{"a rest of nought", with(none, func(x *api.Item) { x.HasRest = true }), true},
		)
		for _, base := range []api.Item{full, none} {
			l = append(l, noPlace("the least", base, func(x *api.Item) *api.Ext { return &x.Min })...)
			l = append(l, noPlace("the greatest", base, func(x *api.Item) *api.Ext { return &x.Max })...)
		}
	}
	return l
}

// noPlace are items that have something of an extreme value where there is none, or with one that has all.
func noPlace(name string, base api.Item, at func(x *api.Item) *api.Ext) []itemCase {
	*at(&base) = api.Ext{}
	l := []itemCase{{name + ": none", base, true}}
	for _, n := range []int64{-1, 1, 5, 63} {
		l = append(l,
			itemCase{name + ": a value", with(base, func(x *api.Item) { at(x).Value = n }), false},
			itemCase{name + ": an origin", with(base, func(x *api.Item) { at(x).Origin = int(n) }), false},
			itemCase{name + ": an age", with(base, func(x *api.Item) { at(x).Age = n }), false},
		)
	}
	if base.Chan.Alive && base.Chan.Kind == api.KExt {
		return append(l, itemCase{name + ": that it is, alone", with(base, func(x *api.Item) { at(x).Has = true }), true})
	}
	return append(l,
		itemCase{name + ": that it is, alone", with(base, func(x *api.Item) { at(x).Has = true }), false},
		itemCase{name + ": a whole one", with(base, func(x *api.Item) { *at(x) = api.Ext{Has: true, Value: 1, Origin: 2, Age: 3} }), false},
	)
}

func extCases() []itemCase {
	var l []itemCase
	for _, at := range []func(x *api.Item) *api.Ext{func(x *api.Item) *api.Ext { return &x.Min }, func(x *api.Item) *api.Ext { return &x.Max }} {
		l = append(l, edges("value", ext("m"), span{-(1<<31 - 1), 1<<31 - 1}, func(x *api.Item, n int64) { at(x).Value = n })...)
		l = append(l, edges("origin", ext("m"), span{0, 15}, func(x *api.Item, n int64) { at(x).Origin = int(n) })...)
		l = append(l, edges("age", ext("m"), span{0, 63}, func(x *api.Item, n int64) { at(x).Age = n })...)
		l = append(l, itemCase{"what is none has a value", with(ext("m"), func(x *api.Item) { at(x).Has = false }), false})
		l = append(l, noPlace("of extremes", ext("m"), at)...)
		l = append(l, noPlace("of no extremes", bare("m", api.KExt), at)...)
		l = append(l, noPlace("of one that is dead", dead("m"), at)...)
	}
	for _, base := range []api.Item{ext("m"), bare("m", api.KExt), dead("m")} {
		l = append(l, edges("version without a place", base, span{0, 0}, func(x *api.Item, n int64) { x.Reg.Ver = n })...)
		l = append(l, edges("writer without a place", base, span{0, 0}, func(x *api.Item, n int64) { x.Reg.Writer = int(n) })...)
		l = append(l, edges("flow without a place", base, span{0, 0}, func(x *api.Item, n int64) { x.Reg.Flow = n })...)
		l = append(l, edges("rest without a place", base, span{0, 0}, func(x *api.Item, n int64) { x.Rest = n })...)
		l = append(l,
			itemCase{"a register without a place", with(base, func(x *api.Item) { x.Reg = api.Reg{Ver: 1, Writer: 2, Flow: 3} }), false},
			itemCase{"a rest of nought without a place", with(base, func(x *api.Item) { x.HasRest = true }), false},
			itemCase{"a rest without a place", with(base, func(x *api.Item) { x.HasRest, x.Rest = true, 1 }), false},
		)
	}
	return l
}

func itemCases() []itemCase { return slices.Concat(recordCases(), flowCases(), extCases()) }

type packetCase struct {
	name   string
	packet api.Packet
	want   bool
}

// packetEdges are packets in which one number lies at an end of its range, or beside it.
func packetEdges(name string, p api.Packet, s span, put func(p *api.Packet, n int64)) []packetCase {
	var l []packetCase
	for _, n := range s.beside() {
		l = append(l, packetCase{name, as(p, func(p *api.Packet) { put(p, n) }), s.has(n)})
	}
	return l
}

func headCases() []packetCase {
	var l []packetCase
	for _, base := range []api.Packet{hello(), packet(api.PkWelcome), packet(api.PkAsk), packet(api.PkAnswer, flow("m"), ext("n")), packet(api.PkBye)} {
		l = append(l, packetCase{"base", base, true})
		for from := -2; from < 20; from++ {
			for to := -2; to < 20; to++ {
				nodes := span{0, 15}
				l = append(l, packetCase{"from and to", as(base, func(p *api.Packet) { p.From, p.To = from, to }), nodes.has(int64(from)) && nodes.has(int64(to)) && from != to})
			}
		}
		for _, n := range []int64{least, -1 << 32, 1 << 32, 1<<32 + 7, 1<<56 + 7, greatest} {
			l = append(l, packetCase{"from afar", as(base, func(p *api.Packet) { p.From = int(n) }), false}, packetCase{"to afar", as(base, func(p *api.Packet) { p.To = int(n) }), false})
		}
		l = append(l, packetEdges("boot", base, span{1, 1 << 40}, func(p *api.Packet, n int64) { p.Boot = n })...)
		l = append(l, packetEdges("life", base, span{0, 1 << 40}, func(p *api.Packet, n int64) { p.Life = n })...)
		boots, lives := span{1, 1 << 40}, span{0, 1 << 40}
		if base.Kind == api.PkHello {
			boots, lives = span{0, 0}, span{0, 0}
		}
		l = append(l, packetEdges("echo", base, boots, func(p *api.Packet, n int64) { p.Echo = n })...)
		l = append(l, packetEdges("the echo's life", base, lives, func(p *api.Packet, n int64) { p.EchoLife = n })...)
	}
	l = append(l, packetEdges("kind of what has an echo", packet(api.PkBye), span{2, 5}, func(p *api.Packet, n int64) { p.Kind = int(n) })...)
	l = append(l, packetEdges("kind of what has none", hello(), span{1, 1}, func(p *api.Packet, n int64) { p.Kind = int(n) })...)
	l = append(l, packetEdges("kind of what has items", packet(api.PkAsk, dead("m")), span{3, 4}, func(p *api.Packet, n int64) { p.Kind = int(n) })...)
	return append(l, packetCase{"nothing", api.Packet{}, false}, packetCase{"items that are empty", as(hello(), func(p *api.Packet) { p.Items = []api.Item{} }), true})
}

func itemsCases() []packetCase {
	var l []packetCase
	for _, kind := range []int{api.PkAsk, api.PkAnswer} {
		for _, n := range []int{0, 1, 2, 7, 8, 9, 10, 16, 100} {
			l = append(l, packetCase{"so many items", packet(kind, named(n)...), n <= 8})
		}
		for _, c := range []struct {
			names string
			want  bool
		}{{"a b c", true}, {"a a", false}, {"b a", false}, {"a c b", false}, {"a b b", false}, {"a b a", false}, {"a aa ab b", true}, {"aa a", false}, {"0 9 _ a z", true}, {"_ 9", false}, {"a _", false}, {"z9 z_", true}, {"10 9", true}, {"9 10", false}, {"a a_", true}, {"a_ a", false}} {
			var items []api.Item
			for i, name := range strings.Fields(c.names) {
				items = append(items, []api.Item{flow(name), ext(name), dead(name)}[i%3])
			}
			l = append(l, packetCase{"names " + c.names, packet(kind, items...), c.want})
		}
		l = append(l, packetCase{"the same name, another record", packet(kind, flow("m"), dead("m")), false})
		for _, wrong := range []api.Item{{}, with(flow("b"), func(x *api.Item) { x.Chan.Epoch = 0 }), with(ext("b"), func(x *api.Item) { x.Rest = 1 }), with(dead("b"), func(x *api.Item) { x.HasRest = true })} {
			l = append(l, packetCase{"one that is not fit", packet(kind, wrong), false}, packetCase{"a first one that is not fit", packet(kind, wrong, flow("c")), false}, packetCase{"a last one that is not fit", packet(kind, flow("a"), wrong), false}, packetCase{"one between that is not fit", packet(kind, flow("a"), wrong, ext("c")), false})
		}
	}
	for _, kind := range []int{api.PkHello, api.PkWelcome, api.PkBye} {
		p := packet(kind)
		if kind == api.PkHello {
			p = hello()
		}
		for _, x := range []api.Item{flow("m"), ext("m"), dead("m"), {}} {
			l = append(l, packetCase{"an item without a place", as(p, func(p *api.Packet) { p.Items = []api.Item{x} }), false})
		}
	}
	return l
}

func packetCases() []packetCase {
	l := slices.Concat(headCases(), itemsCases())
	for _, c := range itemCases() {
		l = append(l, packetCase{"with an item: " + c.name, packet(api.PkAsk, c.item), c.want})
	}
	return l
}

func TestP5_1Name(t *testing.T) {
	for _, c := range nameCases() {
		if got := Name(c.name); got != c.want {
			t.Errorf("Name(%q) = %v", c.name, got)
		}
	}
}

func TestP5_1Item(t *testing.T) {
	for _, c := range itemCases() {
		if got := Item(c.item); got != c.want {
			t.Errorf("%s: Item(%#v) = %v", c.name, c.item, got)
		}
	}
}

func TestP5_1Fit(t *testing.T) {
	for _, c := range packetCases() {
		if got := Fit(c.packet); got != c.want {
			t.Errorf("%s: Fit(%#v) = %v", c.name, c.packet, got)
		}
	}
}

// What lies in the spare room of Items plays no part.
func TestP5_1FitOfSpareRoom(t *testing.T) {
	whole := append(named(3), api.Item{}, flow("a"))
	p := packet(api.PkAsk, whole[:3]...)
	p.Items = whole[:3]
	if !Fit(p) || len(Encode(p)) == 0 {
		t.Errorf("%#v is not fit", p)
	}
	p.Kind, p.Items = api.PkBye, whole[:0]
	if !Fit(p) || len(Encode(p)) == 0 {
		t.Errorf("%#v is not fit", p)
	}
}
