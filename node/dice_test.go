package node

import (
	"fmt"
	"maps"
	"math"
	"math/rand"
	"slices"
	"testing"

	"eddy/api"
)

// dice draws states, packets and calls, by a fixed seed.
type dice struct{ *rand.Rand }

func newDice(seed int64) dice { return dice{rand.New(rand.NewSource(seed))} }

func pick[T any](d dice, l []T) T { return l[d.Intn(len(l))] }

// often is true n times of m.
func (d dice) often(n, m int) bool { return d.Intn(m) < n }

func eight() []string { return []string{"0", "9z", "_", "a", "a0", "abcdefghijklmnop", "m", "z"} }

func twelve() []string { return append(eight(), "b", "m0", "zz", "zzzzzzzzzzzzzzzz") }

// texts are names, and such as are none.
func texts() []string {
	return append(twelve(), "", "M", "a ", "abcdefghijklmnopq", "\xff", "a\x00")
}

// span is a number from least to last, small or at the end, so that many are alike.
func (d dice) span(least int64) int64 {
	switch d.Intn(10) {
	case 0:
		return last - d.Int63n(2)
	case 1:
		return least + d.Int63n(last-least)
	}
	return least + d.Int63n(3)
}

// number is in the range of flows: small, at an end, or any.
func (d dice) number() int64 {
	switch d.Intn(8) {
	case 0:
		return most - d.Int63n(3)
	case 1:
		return -most + d.Int63n(3)
	case 2:
		return d.Int63n(2*most+1) - most
	}
	return d.Int63n(41) - 20
}

func (d dice) record(name string) api.Chan {
	c := api.Chan{Name: name, Epoch: d.span(1), Maker: d.Intn(4), Alive: d.often(5, 6), Kind: 1 + d.Intn(4), Scale: 1}
	if c.Kind != api.KExt && d.often(1, 2) {
		c.Scale = pick(d, []int64{2, 4, 1000, mostScale})
	}
	return c
}

func (d dice) ext() api.Ext {
	if d.often(1, 4) {
		return none
	}
	return api.Ext{Has: true, Value: d.number(), Origin: d.Intn(api.MaxNodes), Age: pick(d, []int64{0, 1, 2, 61, 62, 63})}
}

func (d dice) state(c api.Chan) api.State {
	s := api.State{Chan: c}
	if c.Alive && d.often(3, 4) {
		s.Has, s.Input = true, d.number()
	}
	if c.Alive && c.Kind == api.KExt {
		s.Min, s.Max = d.ext(), d.ext()
	}
	return s
}

// reg is a register of an edge, that was written.
func (d dice) reg(a, b int) api.Reg {
	return api.Reg{Ver: d.span(1), Writer: pick(d, []int{a, b}), Flow: d.number()}
}

// others are so many nodes other than id, in no order.
func (d dice) others(id, n int) []int {
	var l []int
	for _, v := range d.Perm(api.MaxNodes) {
		if v != id && len(l) < n {
			l = append(l, v)
		}
	}
	return l
}

// half is a fit half-edge to a peer that names this incarnation or an earlier one.
func (d dice) half(id, peer int, boot, life int64, states map[string]api.State) end {
	e := end{boot, life, d.often(2, 3), 0, map[string]api.Reg{}}
	switch {
	case d.often(1, 4) && boot > 1:
		e.boot, e.life = 1+d.Int63n(boot-1), d.span(0)
	case d.often(1, 4) && life > 0:
		e.life = d.Int63n(life)
	}
	if e.pending {
		e.misses = d.Intn(3)
	}
	for _, name := range slices.Sorted(maps.Keys(states)) {
		if s := states[name]; s.Chan.Alive && s.Chan.Kind != api.KExt && d.often(2, 3) {
			e.regs[name] = d.reg(id, peer)
		}
	}
	return e
}

// fit is a fit state, with something of all that it may have.
func (d dice) fit() api.Node {
	s := say(api.Node{Id: d.Intn(api.MaxNodes), Boot: d.span(1), Ticks: d.span(0)})
	s.want = d.others(s.id, pick(d, []int{0, 1, 2, 2, 3, 4, 6}))
	if len(s.want) > 0 {
		s.turn = d.Intn(len(s.want))
	}
	names := twelve()
	d.Shuffle(len(names), func(i, j int) { names[i], names[j] = names[j], names[i] })
	for _, name := range names[:pick(d, []int{0, 1, 2, 3, 4, 7, 8})] {
		s.states[name] = d.state(d.record(name))
	}
	for _, peer := range append(d.others(s.id, d.Intn(3)), s.want...) {
		switch d.Intn(5) {
		case 0:
			s.seen[peer] = met{mine: d.span(0)}
		case 1:
		default:
			s.seen[peer] = met{d.span(1), d.span(0), d.span(0)}
		}
	}
	for _, peer := range s.want {
		if m := s.seen[peer]; m.boot > 0 && d.often(4, 5) {
			s.ends[peer] = d.half(s.id, peer, m.boot, m.life, s.states)
		}
	}
	return s.node()
}

// item is a fit Item for a node, of a record that it has or another one.
func (d dice) item(st api.Node, from int, name string) api.Item {
	s := say(st)
	x := api.Item{Chan: d.record(name)}
	if own, have := s.states[name]; have && d.often(3, 4) {
		x.Chan = own.Chan
		switch d.Intn(12) {
		case 0:
			x.Chan.Epoch = min(x.Chan.Epoch+1, last)
		case 1:
			x.Chan.Epoch = max(x.Chan.Epoch-1, 1)
		case 2:
			x.Chan.Maker = d.Intn(api.MaxNodes)
		case 3:
			x.Chan.Alive = !x.Chan.Alive
		case 4:
			x.Chan.Kind, x.Chan.Scale = 1+d.Intn(4), 1
		}
	}
	switch {
	case !x.Chan.Alive:
	case x.Chan.Kind == api.KExt:
		x.Min, x.Max = d.ext(), d.ext()
	default:
		x.Reg = d.news(s.ends[from].regs[name], st.Id, from)
		if x.HasRest = d.often(5, 6); x.HasRest {
			x.Rest = d.number()
		}
	}
	return x
}

// news is a register that a peer may tell where there is this one.
func (d dice) news(r api.Reg, id, from int) api.Reg {
	switch d.Intn(8) {
	case 0:
		return api.Reg{}
	case 1:
		return d.reg(id, from)
	case 2:
		return api.Reg{Ver: min(r.Ver+1, last), Writer: d.Intn(api.MaxNodes), Flow: d.number()}
	case 3:
		return api.Reg{Ver: max(r.Ver, 1), Writer: pick(d, []int{id, from}), Flow: d.number()}
	case 4:
		return api.Reg{Ver: max(r.Ver-1, 1), Writer: from, Flow: d.number()}
	case 5:
		return api.Reg{Ver: min(r.Ver+1, last), Writer: from, Flow: d.number()}
	}
	return r
}

// packet is a packet to a node, mostly a good one from somebody that it wants.
func (d dice) packet(st api.Node) api.Packet {
	p := api.Packet{Kind: pick(d, []int{1, 2, 2, 3, 3, 3, 3, 3, 4, 4, 4, 5, 5}), From: (st.Id + 1) % 16, To: st.Id, Echo: st.Boot}
	if len(st.Want) > 0 && d.often(29, 30) {
		p.From = pick(d, st.Want)
	}
	m := say(st).seen[p.From]
	p.Boot, p.Life, p.EchoLife = max(m.boot, 1), m.life, m.mine
	switch d.Intn(12) {
	case 0:
		p.Boot = min(p.Boot+1, last)
	case 1:
		p.Life = min(p.Life+1, last)
	case 2:
		p.Boot, p.Life = max(p.Boot-1, 1), d.span(0)
	case 3:
		p.Life = max(p.Life-1, 0)
	case 4:
		p.EchoLife = d.span(0)
	case 5:
		p.Echo = d.span(1)
	}
	if p.Kind == api.PkHello {
		p.Echo, p.EchoLife = 0, 0
	}
	if p.Kind == api.PkAsk || p.Kind == api.PkAnswer {
		p.Items = d.items(st, p.From)
	}
	if d.often(1, 25) {
		return d.unfitPacket(p)
	}
	return p
}

func (d dice) items(st api.Node, from int) []api.Item {
	names := twelve()
	d.Shuffle(len(names), func(i, j int) { names[i], names[j] = names[j], names[i] })
	for _, c := range st.Chans { // those that it knows come first
		if d.often(3, 4) {
			names = append([]string{c.Chan.Name}, slices.DeleteFunc(names, func(s string) bool { return s == c.Chan.Name })...)
		}
	}
	names = names[:pick(d, []int{0, 1, 2, 3, 5, 8, 8})]
	slices.Sort(names)
	var l []api.Item
	for _, name := range names {
		l = append(l, d.item(st, from, name))
	}
	return l
}

func wild(d dice) int64 {
	return pick(d, []int64{math.MinInt64, -1 << 32, -most - 1, -1, 0, 1, 2, 15, 16, 63, 64, most, most + 1, 1 << 32, last - 1, last, last + 1, math.MaxInt64})
}

// unfitPacket is a packet with a field that may be out of its range.
func (d dice) unfitPacket(p api.Packet) api.Packet {
	fields := []*int64{&p.Boot, &p.Life, &p.Echo, &p.EchoLife}
	small := []*int{&p.Kind, &p.From, &p.To}
	for i := range p.Items {
		x := &p.Items[i]
		fields = append(fields, &x.Chan.Epoch, &x.Chan.Scale, &x.Reg.Ver, &x.Reg.Flow, &x.Rest, &x.Min.Value, &x.Max.Age)
		small = append(small, &x.Chan.Kind, &x.Chan.Maker, &x.Reg.Writer, &x.Min.Origin)
	}
	switch d.Intn(4) {
	case 0:
		*pick(d, small) = int(wild(d))
	case 1:
		*pick(d, fields) = wild(d)
	case 2:
		p.From = p.To
	default:
		p.Items = append(p.Items, api.Item{Chan: api.Chan{Name: pick(d, texts()), Epoch: 1, Kind: 1, Scale: 1}})
	}
	return p
}

// unfitNode is a state of which parts are drawn from within their ranges and beyond.
func (d dice) unfitNode() api.Node {
	st := d.fit()
	i := func() int { return int(wild(d)) }
	reg := func() api.Reg { return api.Reg{Ver: wild(d), Writer: i(), Flow: wild(d)} }
	ext := func() api.Ext {
		return api.Ext{Has: d.often(1, 2), Value: wild(d), Origin: i(), Age: wild(d)}
	}
	if d.often(1, 2) { // each part is fit, but they may not go together
		return d.torn(st)
	}
	for range 1 + d.Intn(6) {
		switch d.Intn(8) {
		case 0:
			st.Id = i()
		case 1:
			st.Boot, st.Ticks = wild(d), wild(d)
		case 2:
			st.Turn = i()
		case 3:
			st.Want = append([]int{i()}, st.Want...)
		case 4:
			st.Seen = append([]api.Seen{{Peer: i(), Boot: wild(d), Life: wild(d), Mine: wild(d)}}, st.Seen...)
		case 5:
			h := api.Half{Peer: i(), Boot: wild(d), Life: wild(d), Pending: d.often(1, 2), Misses: i()}
			for range d.Intn(10) {
				h.Lines = append(h.Lines, api.Line{Name: pick(d, texts()), Reg: reg()})
			}
			st.Halves = append([]api.Half{h}, st.Halves...)
		default:
			c := api.Chan{Name: pick(d, texts()), Epoch: wild(d), Maker: i(), Alive: d.often(2, 3), Kind: i(), Scale: wild(d)}
			st.Chans = append([]api.State{{Chan: c, Has: d.often(1, 2), Input: wild(d), Min: ext(), Max: ext()}}, st.Chans...)
		}
	}
	return st
}

// torn is a fit state of which something is taken away, or changed for something that is fit by itself.
func (d dice) torn(st api.Node) api.Node {
	switch {
	case len(st.Want) > 0 && d.often(1, 4):
		st.Want, st.Turn = st.Want[1:], 0
	case len(st.Seen) > 0 && d.often(1, 3):
		i := d.Intn(len(st.Seen))
		st.Seen = slices.Delete(st.Seen, i, i+1)
	case len(st.Chans) > 0 && d.often(1, 2):
		i := d.Intn(len(st.Chans))
		st.Chans[i] = d.state(d.record(st.Chans[i].Chan.Name))
	case len(st.Halves) > 0:
		st.Halves[d.Intn(len(st.Halves))].Boot = d.span(1)
	}
	return st
}

// What the tests go by is fit, and of all sorts, or they would say little.
func TestModelsAreFit(t *testing.T) {
	d, sorts := newDice(20), map[string]int{}
	for range 4000 {
		st := d.fit()
		if !sayFit(st) || !alike(say(st).node(), st) {
			t.Fatalf("%+v", st)
		}
		for _, h := range st.Halves {
			sorts[fmt.Sprintf("%d misses", h.Misses)]++
			if len(h.Lines) > 0 {
				sorts["lines"]++
			}
			if s := say(st).seen[h.Peer]; earlier(h.Boot, h.Life, s.boot, s.life) {
				sorts["names an earlier one"]++
			}
		}
		for range 4 {
			p := d.packet(st)
			if sayPacket(p) {
				sorts["packets"]++
			} else {
				sorts["unfit packets"]++
			}
		}
		if !sayFit(d.unfitNode()) {
			sorts["unfit"]++
		}
	}
	for _, sort := range []string{"0 misses", "1 misses", "2 misses", "lines", "names an earlier one", "packets", "unfit packets", "unfit"} {
		if sorts[sort] < 300 {
			t.Errorf("%d of %s", sorts[sort], sort)
		}
	}
	if api.MaxFlow != most || api.MaxBoot != last || api.MaxLife != last || api.MaxVer != last || api.MaxEpoch != last || api.MaxTick != last || api.MaxScale != mostScale || api.MaxNodes != 16 || api.MaxDegree != 6 || api.MaxChans != 8 || api.MissLimit != 3 || api.MaxAge != 64 {
		t.Error("the limits are others than the document's")
	}
}
