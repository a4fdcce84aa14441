package node

import (
	"maps"
	"slices"
	"strings"

	"eddy/api"
)

const (
	most      = int64(2147483647) // the greatest input, flow, rest and extreme value
	last      = int64(1) << 40    // the last boot number, life, version, epoch and tick
	mostScale = int64(1) << 20
)

var none = api.Ext{}

const letters = "abcdefghijklmnopqrstuvwxyz0123456789_"

// met is what a node has seen of a peer, and its own life towards it.
type met struct{ boot, life, mine int64 }

// end is a half-edge.
type end struct {
	boot, life int64
	pending    bool
	misses     int
	regs       map[string]api.Reg
}

// said is a node as the document's words say it: with maps by peers and names, and what it sends and tells.
type said struct {
	id          int
	boot, ticks int64
	want        []int
	turn        int
	seen        map[int]met
	ends        map[int]end
	states      map[string]api.State
	packets     []api.Packet
	events      []api.Event
}

func say(st api.Node) *said {
	s := &said{id: st.Id, boot: st.Boot, ticks: st.Ticks, want: slices.Clone(st.Want), turn: st.Turn, seen: map[int]met{}, ends: map[int]end{}, states: map[string]api.State{}}
	for _, x := range st.Seen {
		s.seen[x.Peer] = met{x.Boot, x.Life, x.Mine}
	}
	for _, h := range st.Halves {
		e := end{h.Boot, h.Life, h.Pending, h.Misses, map[string]api.Reg{}}
		for _, l := range h.Lines {
			e.regs[l.Name] = l.Reg
		}
		s.ends[h.Peer] = e
	}
	for _, x := range st.Chans {
		s.states[x.Chan.Name] = x
	}
	return s
}

// node is the state that is told so.
func (s *said) node() api.Node {
	st := api.Node{Id: s.id, Boot: s.boot, Ticks: s.ticks, Want: s.want, Turn: s.turn}
	for _, peer := range slices.Sorted(maps.Keys(s.seen)) {
		if m := s.seen[peer]; m != (met{}) {
			st.Seen = append(st.Seen, api.Seen{Peer: peer, Boot: m.boot, Life: m.life, Mine: m.mine})
		}
	}
	for _, peer := range slices.Sorted(maps.Keys(s.ends)) {
		e := s.ends[peer]
		h := api.Half{Peer: peer, Boot: e.boot, Life: e.life, Pending: e.pending, Misses: e.misses}
		for _, name := range slices.Sorted(maps.Keys(e.regs)) {
			if r := e.regs[name]; r != (api.Reg{}) {
				h.Lines = append(h.Lines, api.Line{Name: name, Reg: r})
			}
		}
		st.Halves = append(st.Halves, h)
	}
	for _, name := range s.names() {
		st.Chans = append(st.Chans, s.states[name])
	}
	return st
}

// names are those of all records, in order.
func (s *said) names() []string { return slices.Sorted(maps.Keys(s.states)) }

func (s *said) tell(e api.Event)  { s.events = append(s.events, e) }
func (s *said) send(p api.Packet) { s.packets = append(s.packets, p) }

func inRange(x int64) bool { return -2147483647 <= x && x <= 2147483647 }

// flows tells whether a channel is there and is of a kind with flows.
func (s *said) flows(name string) bool {
	c := s.states[name].Chan
	return c.Alive && (c.Kind == api.KMean || c.Kind == api.KCount || c.Kind == api.KSquare)
}

// out is what a register takes from a node on the edge to a peer.
func out(r api.Reg, me, peer int) int64 {
	if me < peer {
		return r.Flow
	}
	return -r.Flow
}

// left is what is left of an input when all half-edges but one have taken theirs.
func (s *said) left(name string, but int) int64 {
	x := s.states[name].Input
	for peer, e := range s.ends {
		if peer != but {
			x -= out(e.regs[name], s.id, peer)
		}
	}
	return x
}

// items are the node's Items towards a peer, with rests or without, and the names of those of which the rest leaves its
// range.
func (s *said) items(peer int, rests bool) ([]api.Item, []string) {
	var l []api.Item
	var beyond []string
	for _, name := range s.names() {
		state := s.states[name]
		x := api.Item{Chan: state.Chan}
		if s.flows(name) {
			x.Reg = s.ends[peer].regs[name]
			rest := s.left(name, peer)
			if !inRange(rest) {
				beyond = append(beyond, name)
			} else if rests {
				x.HasRest, x.Rest = true, rest
			}
		} else if state.Chan.Alive {
			x.Min, x.Max = state.Min, state.Max
		}
		l = append(l, x)
	}
	return l, beyond
}

func (s *said) ask(peer int) {
	e := s.ends[peer]
	e.pending = true
	s.ends[peer] = e
	items, beyond := s.items(peer, true)
	for _, name := range beyond {
		s.tell(api.Event{Kind: api.EvRange, Peer: peer, Name: name})
	}
	s.send(api.Packet{Kind: api.PkAsk, From: s.id, To: peer, Boot: s.boot, Life: s.seen[peer].mine, Echo: e.boot, EchoLife: e.life, Items: items})
}

func (s *said) askAll() {
	for peer := range 16 {
		if _, held := s.ends[peer]; held {
			s.ask(peer)
		}
	}
}

func (s *said) drop(peer int, why int64) {
	delete(s.ends, peer)
	m := s.seen[peer]
	if m.mine < last {
		m.mine++
	}
	s.seen[peer] = m
	s.tell(api.Event{Kind: api.EvDropped, Peer: peer, Num: why})
}

func (s *said) hello(peer int) {
	s.send(api.Packet{Kind: api.PkHello, From: s.id, To: peer, Boot: s.boot, Life: s.seen[peer].mine})
}

// older is an extreme value a tick later, at a node that has told none of its own yet.
func (s *said) older(e api.Ext) api.Ext {
	if !e.Has || e.Origin == s.id || e.Age == 63 {
		return none
	}
	e.Age++
	return e
}

// holds is the one of two extreme values that holds.
func holds(greatest bool, a, b api.Ext) api.Ext {
	switch {
	case !a.Has || !b.Has:
		if a.Has {
			return a
		}
		return b
	case a.Value != b.Value:
		if a.Value < b.Value != greatest {
			return a
		}
		return b
	case a.Age != b.Age:
		if a.Age < b.Age {
			return a
		}
		return b
	case a.Origin < b.Origin:
		return a
	}
	return b
}

// tick is H1.
func (s *said) tick() {
	if s.ticks < last {
		s.ticks++
	}
	for name, x := range s.states {
		if x.Chan.Alive && x.Chan.Kind == api.KExt {
			own := none
			if x.Has {
				own = api.Ext{Has: true, Value: x.Input, Origin: s.id}
			}
			x.Min, x.Max = holds(false, s.older(x.Min), own), holds(true, s.older(x.Max), own)
			s.states[name] = x
		}
	}
	if len(s.want) == 0 {
		return
	}
	v := s.want[s.turn]
	s.turn++
	if s.turn == len(s.want) {
		s.turn = 0
	}
	e, held := s.ends[v]
	switch {
	case !held:
		s.hello(v)
	case e.pending && e.misses == 2:
		s.drop(v, api.DropMiss)
		s.hello(v)
	case e.pending:
		e.misses++
		s.ends[v] = e
		s.ask(v)
	default:
		s.ask(v)
	}
}

// earlier tells whether an incarnation is earlier than another one.
func earlier(boot, life, thanBoot, thanLife int64) bool {
	return boot < thanBoot || boot == thanBoot && life < thanLife
}

// receive is H2 to H8.
func (s *said) receive(p api.Packet) {
	m := s.seen[p.From]
	ignored := api.Event{Kind: api.EvIgnored, Peer: p.From, Num: int64(p.Kind)}
	if !sayPacket(p) || p.To != s.id || !slices.Contains(s.want, p.From) || earlier(p.Boot, p.Life, m.boot, m.life) {
		s.tell(ignored)
		return
	}
	if p.Kind == api.PkHello || p.Echo != s.boot || p.EchoLife != m.mine {
		if p.Kind == api.PkHello || p.Kind == api.PkAsk {
			s.send(api.Packet{Kind: api.PkWelcome, From: s.id, To: p.From, Boot: s.boot, Life: m.mine, Echo: p.Boot, EchoLife: p.Life})
		} else {
			s.tell(ignored)
		}
		return
	}
	s.seen[p.From] = met{p.Boot, p.Life, m.mine}
	e, held := s.ends[p.From]
	if p.Kind == api.PkBye {
		if held && e.boot == p.Boot && e.life == p.Life {
			s.drop(p.From, api.DropBye)
		} else {
			s.tell(ignored)
		}
		return
	}
	begun := !held || earlier(e.boot, e.life, p.Boot, p.Life)
	if begun {
		e = end{p.Boot, p.Life, false, 0, map[string]api.Reg{}}
		s.tell(api.Event{Kind: api.EvHeld, Peer: p.From, Num: p.Boot})
	}
	e.misses = 0
	if p.Kind == api.PkAnswer {
		e.pending = false
	}
	s.ends[p.From] = e
	learned := s.learn(p)
	s.merge(p)
	if p.Kind == api.PkAsk {
		items, _ := s.items(p.From, false)
		s.send(api.Packet{Kind: api.PkAnswer, From: s.id, To: p.From, Boot: s.boot, Life: m.mine, Echo: p.Boot, EchoLife: p.Life, Items: items})
	}
	if learned {
		s.askAll()
	} else if begun {
		s.ask(p.From)
	}
}

// begin lets a channel begin anew with a record.
func (s *said) begin(c api.Chan) {
	s.states[c.Name] = api.State{Chan: c}
	for _, e := range s.ends {
		delete(e.regs, c.Name)
	}
	s.tell(api.Event{Kind: api.EvLearned, Name: c.Name, Num: c.Epoch})
}

func (s *said) learn(p api.Packet) bool {
	learned := false
	for _, x := range p.Items {
		old, have := s.states[x.Chan.Name]
		if !have && len(s.states) < 8 || have && (x.Chan.Epoch > old.Chan.Epoch || x.Chan.Epoch == old.Chan.Epoch && x.Chan.Maker < old.Chan.Maker) {
			s.begin(x.Chan)
			learned = true
		}
	}
	return learned
}

func (s *said) merge(p api.Packet) {
	for _, x := range p.Items {
		name := x.Chan.Name
		own, have := s.states[name]
		if !have || !own.Chan.Alive || !x.Chan.Alive || own.Chan.Epoch != x.Chan.Epoch || own.Chan.Maker != x.Chan.Maker {
			continue
		}
		if !s.flows(name) {
			if x.Min.Origin != s.id {
				own.Min = holds(false, own.Min, x.Min)
			}
			if x.Max.Origin != s.id {
				own.Max = holds(true, own.Max, x.Max)
			}
			s.states[name] = own
			continue
		}
		regs := s.ends[p.From].regs
		r := regs[name]
		if (x.Reg.Writer == s.id || x.Reg.Writer == p.From) && (x.Reg.Ver > r.Ver || x.Reg.Ver == r.Ver && x.Reg.Ver > 0 && x.Reg.Writer < r.Writer) {
			regs[name] = x.Reg
		}
		if p.Kind == api.PkAsk && x.HasRest {
			s.balance(p.From, name, regs, x.Rest)
		}
	}
}

// balance is step 2 of H5: half the difference of the two estimates goes over.
func (s *said) balance(peer int, name string, regs map[string]api.Reg, told int64) {
	r, rest := regs[name], s.left(name, peer)
	mine, theirs := rest-out(r, s.id, peer), told-out(r, peer, s.id)
	amount := (theirs - mine) / 2
	flow := r.Flow - amount
	if s.id > peer {
		flow = r.Flow + amount
	}
	if !inRange(rest) || !inRange(mine) || !inRange(theirs) || amount != 0 && (!inRange(flow) || r.Ver == last) {
		s.tell(api.Event{Kind: api.EvRange, Peer: peer, Name: name})
		return
	}
	if amount != 0 {
		regs[name] = api.Reg{Ver: r.Ver + 1, Writer: s.id, Flow: flow}
		s.tell(api.Event{Kind: api.EvBalanced, Peer: peer, Name: name, Num: amount})
	}
}

func (s *said) link(v int) api.Errno {
	switch {
	case v < 0 || v > 15:
		return api.ErrNode
	case v == s.id:
		return api.ErrSelf
	case slices.Contains(s.want, v):
		return api.ErrHave
	case len(s.want) == 6:
		return api.ErrDegree
	}
	s.want = append(s.want, v)
	return api.OK
}

func (s *said) unlink(v int) api.Errno {
	at := slices.Index(s.want, v)
	if at < 0 {
		return api.ErrNone
	}
	s.want = slices.Delete(s.want, at, at+1)
	if at < s.turn {
		s.turn--
	}
	if s.turn == len(s.want) {
		s.turn = 0
	}
	if e, held := s.ends[v]; held {
		s.send(api.Packet{Kind: api.PkBye, From: s.id, To: v, Boot: s.boot, Life: s.seen[v].mine, Echo: e.boot, EchoLife: e.life})
		s.drop(v, api.DropUnlink)
	}
	return api.OK
}

func (s *said) create(name string, kind int, scale int64) api.Errno {
	old, have := s.states[name]
	switch {
	case !sayName(name):
		return api.ErrName
	case kind < 1 || kind > 4:
		return api.ErrKind
	case scale < 1 || scale > mostScale || kind == api.KExt && scale != 1:
		return api.ErrScale
	case old.Chan.Alive:
		return api.ErrHave
	case !have && len(s.states) == 8:
		return api.ErrChans
	case old.Chan.Epoch == last:
		return api.ErrLast
	}
	s.begin(api.Chan{Name: name, Epoch: old.Chan.Epoch + 1, Maker: s.id, Alive: true, Kind: kind, Scale: scale})
	s.askAll()
	return api.OK
}

func (s *said) remove(name string) api.Errno {
	c := s.states[name].Chan
	switch {
	case !c.Alive:
		return api.ErrNone
	case c.Epoch == last:
		return api.ErrLast
	}
	c.Epoch, c.Maker, c.Alive = c.Epoch+1, s.id, false
	s.begin(c)
	s.askAll()
	return api.OK
}

func (s *said) set(name string, x int64) api.Errno {
	state := s.states[name]
	if !state.Chan.Alive {
		return api.ErrNone
	}
	if state.Chan.Kind == api.KCount && x != 0 && x != 1 {
		return api.ErrUnit
	}
	if !inRange(x) {
		return api.ErrRange
	}
	if state.Chan.Kind == api.KSquare {
		if x > 46340 || x < -46340 {
			return api.ErrRange
		}
		x *= x
	}
	x *= state.Chan.Scale // of KExt it is 1
	if !inRange(x) {
		return api.ErrRange
	}
	state.Has, state.Input = true, x
	if own := (api.Ext{Has: true, Value: x, Origin: s.id}); state.Chan.Kind == api.KExt {
		for _, e := range []*api.Ext{&state.Min, &state.Max} {
			if e.Origin == s.id {
				*e = none
			}
		}
		state.Min, state.Max = holds(false, state.Min, own), holds(true, state.Max, own)
	}
	s.states[name] = state
	return api.OK
}

// number is an estimate, or the rest towards a peer: what is left of the input but for the half-edge to it.
func (s *said) number(name string, but int) (int64, api.Errno) {
	switch {
	case !s.states[name].Chan.Alive:
		return 0, api.ErrNone
	case !s.flows(name):
		return 0, api.ErrKind
	}
	if x := s.left(name, but); inRange(x) {
		return x, api.OK
	}
	return 0, api.ErrRange
}

// extreme is the least or the greatest value that is known.
func (s *said) extreme(name string, greatest bool) (api.Ext, api.Errno) {
	x := s.states[name]
	e := x.Min
	if greatest {
		e = x.Max
	}
	switch {
	case !x.Chan.Alive:
		return none, api.ErrNone
	case s.flows(name):
		return none, api.ErrKind
	case !e.Has:
		return none, api.ErrEmpty
	}
	return e, api.OK
}

func isNode(n int) bool { return n >= 0 && n <= 15 }

func from1(x int64) bool { return x >= 1 && x <= last }

func from0(x int64) bool { return x >= 0 && x <= last }

func sayName(s string) bool {
	return len(s) > 0 && len(s) <= 16 && !strings.ContainsFunc(s, func(r rune) bool { return !strings.ContainsRune(letters, r) })
}

func sayRecord(c api.Chan) bool {
	return sayName(c.Name) && from1(c.Epoch) && isNode(c.Maker) && c.Kind >= 1 && c.Kind <= 4 && c.Scale >= 1 && c.Scale <= mostScale && (c.Kind != api.KExt || c.Scale == 1)
}

func sayExt(e api.Ext) bool {
	return e == none || e.Has && inRange(e.Value) && isNode(e.Origin) && e.Age >= 0 && e.Age <= 63
}

// sayReg says what is a register that was written, by any node.
func sayReg(r api.Reg) bool { return from1(r.Ver) && isNode(r.Writer) && inRange(r.Flow) }

// sayPacket says what is a fit packet, by chapter 5: each of its rules by itself.
func sayPacket(p api.Packet) bool {
	rules := []bool{
		p.Kind >= 1 && p.Kind <= 5,
		isNode(p.From), isNode(p.To), p.From != p.To,
		from1(p.Boot), from0(p.Life),
		p.Kind != api.PkHello || p.Echo == 0 && p.EchoLife == 0,
		p.Kind == api.PkHello || from1(p.Echo) && from0(p.EchoLife),
		len(p.Items) == 0 || p.Kind == api.PkAsk || p.Kind == api.PkAnswer,
		len(p.Items) <= 8,
	}
	for i, x := range p.Items {
		flow := x.Chan.Alive && x.Chan.Kind != api.KExt
		extreme := x.Chan.Alive && x.Chan.Kind == api.KExt
		rules = append(rules,
			sayRecord(x.Chan),
			i == 0 || p.Items[i-1].Chan.Name < x.Chan.Name,
			x.Reg == api.Reg{} || flow && sayReg(x.Reg),
			x.Rest == 0 && !x.HasRest || flow && x.HasRest && inRange(x.Rest),
			x.Min == none || extreme && sayExt(x.Min),
			x.Max == none || extreme && sayExt(x.Max),
		)
	}
	return !slices.Contains(rules, false)
}

// rising tells whether numbers rise.
func rising(l []int) bool {
	for i := range len(l) - 1 {
		if l[i] >= l[i+1] {
			return false
		}
	}
	return true
}

// sayFit says what is a fit state: each of the chapters' rules by itself.
func sayFit(st api.Node) bool {
	rules := []bool{isNode(st.Id), from1(st.Boot), from0(st.Ticks), len(st.Want) <= 6, len(st.Chans) <= 8}
	for i, v := range st.Want {
		rules = append(rules, isNode(v), v != st.Id, !slices.Contains(st.Want[:i], v))
	}
	rules = append(rules, st.Turn == 0 || st.Turn > 0 && st.Turn < len(st.Want))
	var peers []int
	for _, s := range st.Seen {
		peers = append(peers, s.Peer)
		rules = append(rules, isNode(s.Peer), s.Peer != st.Id, from0(s.Boot), from0(s.Life), from0(s.Mine), s.Boot > 0 || s.Life == 0, s.Boot > 0 || s.Life > 0 || s.Mine > 0)
	}
	rules = append(rules, rising(peers))
	peers = nil
	for _, h := range st.Halves {
		peers = append(peers, h.Peer)
		rules = append(rules, sayHalf(st, h))
	}
	rules = append(rules, rising(peers))
	for i, s := range st.Chans {
		extreme := s.Chan.Alive && s.Chan.Kind == api.KExt
		rules = append(rules, sayRecord(s.Chan), i == 0 || st.Chans[i-1].Chan.Name < s.Chan.Name,
			s.Chan.Alive || !s.Has, s.Has || s.Input == 0, inRange(s.Input),
			s.Min == none || extreme && sayExt(s.Min), s.Max == none || extreme && sayExt(s.Max))
	}
	return !slices.Contains(rules, false)
}

// sayHalf says what is a fit half-edge in a state.
func sayHalf(st api.Node, h api.Half) bool {
	rules := []bool{
		slices.Contains(st.Want, h.Peer),
		from1(h.Boot), from0(h.Life),
		h.Misses == 0 || h.Pending && h.Misses >= 1 && h.Misses <= 2,
		slices.ContainsFunc(st.Seen, func(s api.Seen) bool { return s.Peer == h.Peer && !earlier(s.Boot, s.Life, h.Boot, h.Life) }),
	}
	for i, l := range h.Lines {
		rules = append(rules, i == 0 || h.Lines[i-1].Name < l.Name, sayReg(l.Reg), l.Reg.Writer == st.Id || l.Reg.Writer == h.Peer,
			slices.ContainsFunc(st.Chans, func(s api.State) bool {
				return s.Chan.Name == l.Name && s.Chan.Alive && s.Chan.Kind != api.KExt
			}))
	}
	return !slices.Contains(rules, false)
}

// alike tells whether two states are the same, field by field; a list that is nil and one that is empty are the same.
func alike(a, b api.Node) bool {
	halves := slices.EqualFunc(a.Halves, b.Halves, func(g, h api.Half) bool {
		return g.Peer == h.Peer && g.Boot == h.Boot && g.Life == h.Life && g.Pending == h.Pending && g.Misses == h.Misses && slices.Equal(g.Lines, h.Lines)
	})
	return halves && a.Id == b.Id && a.Boot == b.Boot && a.Ticks == b.Ticks && a.Turn == b.Turn && slices.Equal(a.Want, b.Want) && slices.Equal(a.Seen, b.Seen) && slices.Equal(a.Chans, b.Chans)
}

// samePackets tells whether two rows of packets are the same.
func samePackets(a, b []api.Packet) bool {
	return slices.EqualFunc(a, b, func(p, q api.Packet) bool {
		same := slices.Equal(p.Items, q.Items)
		return same && p.Kind == q.Kind && p.From == q.From && p.To == q.To && p.Boot == q.Boot && p.Life == q.Life && p.Echo == q.Echo && p.EchoLife == q.EchoLife
	})
}
