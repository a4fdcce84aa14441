package node

import (
	"slices"
	"testing"

	"eddy/api"
)

// net is nodes, and packets between them that are lost, doubled and late.
type net struct {
	dice
	t       *testing.T
	nodes   []api.Node
	flying  []api.Packet
	hostile bool // packets are lost and doubled, nodes crash
}

func newNet(t *testing.T, seed int64, n int) *net {
	x := &net{dice: newDice(seed), t: t}
	for id := range n {
		x.nodes = append(x.nodes, New(id, 1))
	}
	return x
}

// at calls a node, and holds what comes of it against the words, and against what it was.
func (x *net) at(id int, a act) came {
	x.t.Helper()
	was := x.nodes[id]
	c := check(x.t, was, a)
	neverBack(x.t, was, c.st)
	x.nodes[id] = c.st
	x.flying = append(x.flying, c.packets...)
	return c
}

// deliver takes a packet out, by its place, and gives it to whom it is for.
func (x *net) deliver(i int) came {
	x.t.Helper()
	p := x.flying[i]
	x.flying = slices.Delete(x.flying, i, i+1)
	return x.at(p.To, act{call: "Receive", p: p})
}

func (x *net) flush() {
	x.t.Helper()
	for len(x.flying) > 0 {
		x.deliver(0)
	}
}

// round is a tick at each node, each followed by all that it brings about.
func (x *net) round() {
	x.t.Helper()
	for id := range x.nodes {
		x.at(id, act{call: "Tick"})
	}
	x.flush()
}

// step is anything: mostly ticks and deliveries.
func (x *net) step() {
	x.t.Helper()
	id := x.Intn(len(x.nodes))
	switch x.Intn(40) {
	case 0:
		x.at(id, act{call: "Link", v: x.Intn(len(x.nodes))})
	case 1:
		if x.often(1, 4) {
			x.at(id, act{call: "Unlink", v: x.Intn(len(x.nodes))})
		}
	case 2, 3:
		x.at(id, act{call: "Create", name: pick(x.dice, []string{"a", "b", "m"}), kind: 1 + x.Intn(4), x: 1})
	case 4:
		if x.often(1, 3) {
			x.at(id, act{call: "Delete", name: pick(x.dice, []string{"a", "b", "m"})})
		}
	case 5, 6, 7:
		x.at(id, act{call: "Set", name: pick(x.dice, []string{"a", "b", "m"}), x: pick(x.dice, []int64{0, 1, 100, -100, x.number()})})
	case 8, 9, 10, 11, 12, 13, 14, 15:
		x.at(id, act{call: "Tick"})
	case 16:
		if x.hostile && x.often(1, 6) { // a crash, and a restart
			x.nodes[id] = New(id, x.nodes[id].Boot+1)
			for v := range x.nodes {
				x.at(id, act{call: "Link", v: v})
			}
		}
	default:
		x.packet()
	}
}

// packet is what happens to one of those on their way.
func (x *net) packet() {
	x.t.Helper()
	if len(x.flying) == 0 {
		return
	}
	i := x.Intn(len(x.flying))
	switch {
	case x.hostile && x.often(1, 12), len(x.flying) > 60:
		x.flying = slices.Delete(x.flying, i, i+1)
	case x.hostile && x.often(1, 12):
		x.flying = append(x.flying, x.flying[i])
	case x.often(2, 3):
		x.deliver(0)
	default:
		x.deliver(i)
	}
}

// neverBack is P20.12, of one call.
func neverBack(t *testing.T, was, is api.Node) {
	t.Helper()
	if is.Boot != was.Boot || is.Id != was.Id || is.Ticks < was.Ticks {
		t.Fatalf("the boot number, the node or the ticks: %+v, was %+v", is, was)
	}
	now := say(is)
	for peer, m := range say(was).seen {
		if n := now.seen[peer]; earlier(n.boot, n.life, m.boot, m.life) || n.mine < m.mine {
			t.Fatalf("what was seen of %d: %+v, was %+v", peer, is, was)
		}
	}
	for peer, old := range say(was).ends {
		e, held := now.ends[peer]
		if !held {
			continue
		}
		if earlier(e.boot, e.life, old.boot, old.life) {
			t.Fatalf("the half-edge to %d: %+v, was %+v", peer, is, was)
		}
		if e.boot != old.boot || e.life != old.life {
			continue
		}
		for name, r := range old.regs {
			n := e.regs[name]
			if now.states[name].Chan == say(was).states[name].Chan && (n.Ver < r.Ver || n.Ver == r.Ver && n.Writer > r.Writer) {
				t.Fatalf("the register of %s to %d: %+v, was %+v", name, peer, is, was)
			}
		}
	}
}

// P20.9, P20.11 and P20.12, and all by the words, in whatever comes about among nodes.
func TestP20_12NeverBack(t *testing.T) {
	for seed := range int64(60) {
		x := newNet(t, seed, 2+int(seed)%5)
		x.hostile = seed%3 > 0
		for id := range x.nodes {
			for v := range x.nodes {
				x.at(id, act{call: "Link", v: v})
			}
		}
		for range 700 {
			x.step()
		}
	}
	// At single nodes, in rows of all sorts of calls: with numbers that are at their ends, too.
	d := newDice(2012)
	for range 300 {
		st := d.fit()
		for range 100 {
			c := check(t, st, d.act(st))
			neverBack(t, st, c.st)
			st = c.st
		}
	}
}

// agreed tells whether all half-edges lead to nodes that hold the other end of the edge, with the same registers.
func (x *net) agreed(name string) bool {
	for _, st := range x.nodes {
		for peer, e := range say(st).ends {
			other := say(x.nodes[peer])
			back, held := other.ends[st.Id]
			if !held || e.boot != other.boot || e.life != other.seen[st.Id].mine || back.boot != st.Boot || back.life != say(st).seen[peer].mine || e.regs[name] != back.regs[name] {
				return false
			}
		}
	}
	return true
}

// sums are the sum of the estimates, and that of the inputs.
func (x *net) sums(name string) (estimates, inputs int64) {
	for _, st := range x.nodes {
		e, err := Estimate(st, name)
		if err != api.OK {
			x.t.Fatalf("the estimate of %s at %+v: %d", name, st, err)
		}
		estimates, inputs = estimates+e, inputs+say(st).states[name].Input
	}
	return estimates, inputs
}

// calmNet is nodes each of which wants all others, that have a channel m of KMean, with inputs.
func calmNet(t *testing.T, seed int64, n int) *net {
	x := newNet(t, seed, n)
	for id := range x.nodes {
		for v := range x.nodes {
			x.at(id, act{call: "Link", v: v})
		}
	}
	for range n {
		x.round()
	}
	x.at(0, act{call: "Create", name: "m", kind: api.KMean, x: 1})
	x.flush()
	for id := range x.nodes {
		x.at(id, act{call: "Set", name: "m", x: x.Int63n(2001) - 1000})
	}
	return x
}

// An Ask that is delivered as it was sent, on an edge that is agreed: what the node's estimate wins the peer's loses, as
// soon as the Answer has come; behind the merge the edge's Out of the one is the other one's opposite.
func TestP20_10NothingIsMade(t *testing.T) {
	moved := 0
	for seed := range int64(40) {
		x := calmNet(t, seed, 2+int(seed)%4)
		for range 60 {
			id := x.Intn(len(x.nodes))
			if x.often(1, 6) {
				x.at(id, act{call: "Set", name: "m", x: x.Int63n(2001) - 1000})
			}
			ask := x.at(id, act{call: "Tick"}).packets[0]
			estimate := func(id int) int64 {
				e, err := Estimate(x.nodes[id], "m")
				if err != api.OK {
					t.Fatal(err)
				}
				return e
			}
			if ask.Kind != api.PkAsk || !x.agreed("m") {
				t.Fatalf("%+v: the net is not calm", ask)
			}
			mine, theirs := estimate(ask.To), estimate(id)
			got := x.deliver(0)
			wins := estimate(ask.To) - mine
			if want := (theirs - mine) / 2; wins != want || (wins != 0) != (len(got.events) == 1) || wins != 0 && got.events[0] != balanced(id, "m", wins) {
				t.Fatalf("%d wins %d of %d, want %d: %+v", ask.To, wins, id, want, got.events)
			}
			if estimate(id) != theirs {
				t.Fatal("the peer's estimate is another one already")
			}
			x.deliver(0)
			if estimate(id) != theirs-wins || estimate(ask.To) != mine+wins {
				t.Fatalf("%d has lost %d, want %d", id, theirs-estimate(id), wins)
			}
			if a, b := outOf(x.nodes[id], ask.To), outOf(x.nodes[ask.To], id); a != -b || !x.agreed("m") {
				t.Fatalf("the edge takes %d and %d", a, b)
			}
			if estimates, inputs := x.sums("m"); estimates != inputs {
				t.Fatalf("the estimates are %d, the inputs %d", estimates, inputs)
			}
			if wins != 0 {
				moved++
			}
		}
	}
	if moved < 300 {
		t.Errorf("moved was %d times", moved)
	}
}

// outOf is what the edge to a peer takes from a node, of m.
func outOf(st api.Node, peer int) int64 { return out(say(st).ends[peer].regs["m"], st.Id, peer) }

// Drawn Asks that are good, by the peer's own words: behind the Answer the two ends are opposites, and what the Ask was
// told to move is what the node's estimate has won since the merge.
func TestP20_10OppositesBehindAnAsk(t *testing.T) {
	d, moved, kept := newDice(2010), 0, 0
	for range 20000 {
		st := d.fit()
		p := d.packet(st)
		if p.Kind != api.PkAsk {
			continue
		}
		got := check(t, st, act{call: "Receive", p: p})
		i := slices.IndexFunc(got.packets, func(p api.Packet) bool { return p.Kind == api.PkAnswer })
		if i < 0 {
			continue
		}
		// The peer merges what comes into what it told: into registers that are its own by now.
		for _, x := range got.packets[i].Items {
			at := slices.IndexFunc(p.Items, func(y api.Item) bool { return y.Chan == x.Chan })
			e := say(got.st).ends[p.From]
			if at < 0 || !x.Chan.Alive || x.Chan.Kind == api.KExt {
				continue
			}
			r := p.Items[at].Reg
			if r.Writer != st.Id && r.Writer != p.From || x.Reg.Ver > r.Ver || x.Reg.Ver == r.Ver && x.Reg.Writer < r.Writer {
				r = x.Reg
			}
			if p.Items[at].Reg.Ver == x.Reg.Ver && p.Items[at].Reg.Writer == x.Reg.Writer {
				kept++ // of one stamp: drawn registers may differ all the same, those of the protocol do not
				continue
			}
			if out(r, p.From, st.Id) != -out(e.regs[x.Chan.Name], st.Id, p.From) {
				t.Fatalf("%+v at %+v: %+v there, %+v here", p, st, r, e.regs[x.Chan.Name])
			}
			moved++
		}
	}
	if moved < 2000 || kept < 200 {
		t.Errorf("%d and %d", moved, kept)
	}
}

// A packet that is passed over, or answered by a Welcome, changes nothing.
func TestP20_10PassedOver(t *testing.T) {
	d, passed, welcomed := newDice(20101), 0, 0
	for range 30000 {
		st := d.fit()
		p := d.packet(st)
		st2, packets, events := Receive(st, p)
		m := say(st).seen[p.From]
		goodBye := p.Kind == api.PkBye && p.Echo == st.Boot && p.EchoLife == m.mine // behind it the sender's incarnation was seen
		switch {
		case len(events) == 1 && events[0].Kind == api.EvIgnored && !goodBye:
			if !alike(st2, st) || len(packets) > 0 {
				t.Fatalf("%+v at %+v: %+v, %+v", p, st, st2, packets)
			}
			passed++
		case len(packets) == 1 && packets[0].Kind == api.PkWelcome:
			if !alike(st2, st) || len(events) > 0 {
				t.Fatalf("%+v at %+v: %+v, %+v", p, st, st2, events)
			}
			welcomed++
		}
	}
	if passed < 3000 || welcomed < 1000 {
		t.Errorf("%d were passed over, %d answered by a Welcome", passed, welcomed)
	}
}

// Of whatever was lost: behind rounds without losses the edges are agreed, and nothing is missing.
func TestMassComesBack(t *testing.T) {
	for seed := range int64(30) {
		x := calmNet(t, seed, 2+int(seed)%4)
		for range 200 {
			id := x.Intn(len(x.nodes))
			switch {
			case x.often(1, 3):
				x.at(id, act{call: "Tick"})
			case len(x.flying) == 0:
			case x.often(1, 2):
				x.flying = slices.Delete(x.flying, 0, 1)
			default:
				x.deliver(x.Intn(len(x.flying)))
			}
		}
		for range api.DropRounds {
			x.round()
		}
		if !x.agreed("m") {
			t.Fatalf("seed %d: the edges are not agreed: %+v", seed, x.nodes)
		}
		if estimates, inputs := x.sums("m"); estimates != inputs {
			t.Fatalf("seed %d: the estimates are %d, the inputs %d", seed, estimates, inputs)
		}
		for _, st := range x.nodes {
			if len(st.Halves) != len(x.nodes)-1 {
				t.Fatalf("seed %d: %+v holds too few edges", seed, st)
			}
		}
	}
}

// A node that crashes takes its mass along; those that held an edge to it have theirs back.
func TestMassOfTheDead(t *testing.T) {
	x := calmNet(t, 7, 2)
	for range 4 {
		x.round()
	}
	input := say(x.nodes[0]).states["m"].Input
	if e, _ := Estimate(x.nodes[0], "m"); e == input {
		t.Fatal("nothing has gone over")
	}
	var events []api.Event
	for range 5 { // 1 is gone: what goes to it is lost
		events = append(events, x.at(0, act{call: "Tick"}).events...)
		x.flying = nil
	}
	if e, _ := Estimate(x.nodes[0], "m"); e != input || !slices.Equal(events, []api.Event{dropped(1, api.DropMiss)}) {
		t.Errorf("%d, want %d; %+v", e, input, events)
	}
}
