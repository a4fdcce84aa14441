package world

import (
	"slices"
	"testing"

	"eddy/api"
	"eddy/node"
)

// seenOf is what a node has seen of a peer.
func seenOf(st api.Node, peer int) api.Seen {
	for _, s := range st.Seen {
		if s.Peer == peer {
			return s
		}
	}
	return api.Seen{Peer: peer}
}

func halfTo(st api.Node, peer int) (api.Half, bool) {
	for _, h := range st.Halves {
		if h.Peer == peer {
			return h, true
		}
	}
	return api.Half{}, false
}

func lineOf(h api.Half, name string) api.Reg {
	for _, l := range h.Lines {
		if l.Name == name {
			return l.Reg
		}
	}
	return api.Reg{}
}

func stateOf(st api.Node, name string) api.State {
	for _, s := range st.Chans {
		if s.Chan.Name == name {
			return s
		}
	}
	return api.State{}
}

// bothHold tells whether an edge is held by both ends.
func bothHold(w api.World, a, b int) bool {
	names := func(a, b int) bool {
		h, is := halfTo(w.Nodes[a], b)
		return is && w.Up[a] && w.Up[b] && h.Boot == w.Nodes[b].Boot && h.Life == seenOf(w.Nodes[b], a).Mine
	}
	return names(a, b) && names(b, a)
}

// oneInstance tells whether two nodes have the same instance of a channel, of a kind with flows.
func oneInstance(w api.World, a, b int, name string) bool {
	c, d := stateOf(w.Nodes[a], name).Chan, stateOf(w.Nodes[b], name).Chan
	return c.Alive && d.Alive && c.Epoch == d.Epoch && c.Maker == d.Maker && c.Kind != api.KExt && d.Kind != api.KExt
}

// agreed tells whether an edge is agreed for a channel.
func agreed(w api.World, a, b int, name string) bool {
	g, _ := halfTo(w.Nodes[a], b)
	h, _ := halfTo(w.Nodes[b], a)
	return bothHold(w, a, b) && oneInstance(w, a, b, name) && lineOf(g, name) == lineOf(h, name)
}

// amongThemselves tells whether nodes are up, have one instance, and all their half-edges lead to one of them, and are
// agreed.
func amongThemselves(w api.World, set []int, name string) bool {
	for _, a := range set {
		if !w.Up[a] || !oneInstance(w, a, set[0], name) {
			return false
		}
		for _, h := range w.Nodes[a].Halves {
			if !slices.Contains(set, h.Peer) || !agreed(w, a, h.Peer, name) {
				return false
			}
		}
	}
	return true
}

// sums are those of the estimates and of the inputs of nodes; false: an estimate is out of its range.
func sums(w api.World, set []int, name string) (int64, int64, bool) {
	var estimates, inputs int64
	for _, a := range set {
		x, err := node.Estimate(w.Nodes[a], name)
		if err != api.OK {
			return 0, 0, false
		}
		estimates, inputs = estimates+x, inputs+stateOf(w.Nodes[a], name).Input
	}
	return estimates, inputs, true
}

// subsets are all sets of some of n nodes.
func subsets(n int) [][]int {
	var l [][]int
	for bits := 1; bits < 1<<n; bits++ {
		var set []int
		for id := range n {
			if bits>>id&1 == 1 {
				set = append(set, id)
			}
		}
		l = append(l, set)
	}
	return l
}

var names = []string{"a", "b", "m", "n"}

// conserved is T3, of a moment: how many sets of several nodes there are of which it says something.
func conserved(t *testing.T, w api.World) int {
	t.Helper()
	sets := 0
	for _, set := range subsets(len(w.Nodes)) {
		for _, name := range names {
			if !amongThemselves(w, set, name) {
				continue
			}
			estimates, inputs, is := sums(w, set, name)
			if is && estimates != inputs {
				t.Fatalf("%v have %d of %s, and their inputs are %d: %+v", set, estimates, name, inputs, w)
			}
			if is && len(set) > 1 && inputs != 0 && len(w.Nodes[set[0]].Halves) > 0 {
				sets++
			}
		}
	}
	return sets
}

// P21.9 (T3): at every moment of every run, whatever is lost, doubled and late, and whoever crashes.
func TestP21_9Conservation(t *testing.T) {
	d, sets := newDice(9), 0
	for i := range 80 {
		n := 1 + i%5
		w := fresh(t, n)
		for _, x := range d.script(n, 200) {
			w, _ = Do(w, x)
			sets += conserved(t, w)
		}
	}
	if sets < 2000 {
		t.Errorf("it says something of %d sets", sets)
	}
}

// P21.8 (T6): each row of a few restarts, the power going anywhere; what the numbers are is said of the disk as well.
func TestP21_8RowsOfRestarts(t *testing.T) {
	cuts := []int64{-1, 0, 1, 2}
	for row := range 4 * 4 * 4 * 4 * 4 {
		w := fresh(t, 1)
		last := w.Nodes[0].Boot
		for rest, i := row, 0; i < 5; rest, i = rest/4, i+1 {
			cut := cuts[rest%4]
			if w.Up[0] {
				w, _ = Do(w, crash(0))
			}
			var o api.Outcome
			if w, o = Do(w, starting(0, cut)); o.Err != api.OK {
				if o.Err != api.ErrDead || cut < 0 || cut > 1 || w.Up[0] {
					t.Fatalf("row %d: %v", row, o.Err)
				}
				continue
			}
			if w.Nodes[0].Boot <= last || !w.Up[0] || cut == 0 || cut == 1 {
				t.Fatalf("row %d: boot number %d behind %d", row, w.Nodes[0].Boot, last)
			}
			last = w.Nodes[0].Boot
		}
	}
}

// earlier tells whether an incarnation is earlier than another one.
func earlier(boot, life, thanBoot, thanLife int64) bool {
	return boot < thanBoot || boot == thanBoot && life < thanLife
}

// neverBack is T6, of one node that is up ahead of a step and behind it.
func neverBack(t *testing.T, was, is api.Node) {
	t.Helper()
	if is.Boot != was.Boot {
		t.Fatalf("its boot number is %d, was %d", is.Boot, was.Boot)
	}
	for _, s := range was.Seen {
		if now := seenOf(is, s.Peer); earlier(now.Boot, now.Life, s.Boot, s.Life) || now.Mine < s.Mine {
			t.Fatalf("what it has seen is %+v, was %+v", now, s)
		}
	}
	for _, h := range was.Halves {
		if now, held := halfTo(is, h.Peer); held && earlier(now.Boot, now.Life, h.Boot, h.Life) {
			t.Fatalf("its half-edge names an earlier incarnation: %+v, was %+v", now, h)
		}
	}
}

// P21.8 (T6) in runs of all sorts.
func TestP21_8BootNumbersRise(t *testing.T) {
	d, starts, cuts := newDice(8), 0, 0
	for i := range 80 {
		n := 1 + i%6
		w := fresh(t, n)
		last := make([]int64, n)
		for _, x := range d.script(n, 300) {
			if id := slices.Index(w.Up, false); id >= 0 && d.often(1, 8) {
				x = starting(id, pick(d, []int64{-1, 0, 1, 2, 3}))
			} else if d.often(1, 20) {
				x = crash(d.Intn(n))
			}
			was := w
			var o api.Outcome
			w, o = Do(w, x)
			if x.Kind == api.StRestart && o.Err == api.ErrDead {
				cuts++
			}
			for id, st := range w.Nodes {
				switch {
				case was.Up[id] && w.Up[id]:
					neverBack(t, was.Nodes[id], st)
				case w.Up[id]:
					if starts++; st.Boot <= last[id] {
						t.Fatalf("%d comes up with the boot number %d, had %d", id, st.Boot, last[id])
					}
				}
				last[id] = max(last[id], st.Boot)
			}
		}
	}
	if starts < 500 || cuts < 300 {
		t.Errorf("%d starts, and %d that were cut", starts, cuts)
	}
}

// P21.7: from a fit world Do comes to a fit one, in long runs among many nodes as well.
func TestP21_7WorldsStayFit(t *testing.T) {
	d := newDice(7)
	for _, n := range []int{1, 2, 3, 8, 15, 16} {
		w := fresh(t, n)
		for i, x := range d.script(n, 500) {
			w, _ = Do(w, x)
			if !sayFit(w) || !Fit(w) {
				t.Fatalf("step %d, %+v: %+v", i, x, w)
			}
		}
	}
}

// asks are the edges on which Asks were put since a number of the Mail, the asking node first.
func asks(w api.World, since int64) []api.Link {
	var l []api.Link
	for at, d := range w.Mail.List {
		if p, _ := Packet(w, at); d.Number > since && p.Kind == api.PkAsk {
			l = append(l, api.Link{A: d.From, B: d.To})
		}
	}
	return l
}

// lossy lets nodes set inputs, and ask, and much of that be lost, so that edges are held and not agreed.
func (d dice) lossy(w api.World) api.World {
	n := len(w.Nodes)
	for range 20 {
		x := pick(d, []api.Step{tick(d.Intn(n)), tick(d.Intn(n)), deliver(0), deliver(0), {Kind: api.StDrop, N: d.Int63n(9)}, setting(d.Intn(n), "m", d.Int63n(999))})
		w, _ = Do(w, x)
	}
	return w
}

// P21.10 (T4): an extension without faults, links, calls, that ends with nothing in flight: each edge that both ends
// hold then, and on which an Ask was sent, is agreed.
func TestP21_10Progress(t *testing.T) {
	d, edges, lost, late := newDice(10), 0, 0, 0
	for i := range 400 {
		n := 2 + i%5
		w, _, _ := Run(n, d.script(n, 20+d.Intn(150)))
		w = d.lossy(w)
		was, sent := w, map[api.Link]bool{}
		do := func(x api.Step) {
			since := w.Mail.Next
			w, _ = Do(w, x)
			for _, l := range asks(w, since) {
				sent[ordered(l.A, l.B)] = true
			}
		}
		for range d.Intn(40) {
			if d.often(1, 2) {
				do(tick(d.Intn(n)))
			} else {
				do(deliver(d.Int63n(1000)))
			}
		}
		for len(w.Mail.List) > 0 {
			do(deliver(d.Int63n(1000)))
		}
		if w.Lost != was.Lost {
			lost++
			continue
		}
		for l := range sent {
			for _, name := range names {
				if !bothHold(w, l.A, l.B) || !oneInstance(w, l.A, l.B, name) {
					continue
				}
				if !agreed(w, l.A, l.B, name) {
					t.Fatalf("run %d: %v is not agreed for %s: %+v, was %+v", i, l, name, w, was)
				}
				if edges++; bothHold(was, l.A, l.B) && !agreed(was, l.A, l.B, name) {
					late++
				}
			}
		}
	}
	if edges < 500 || late < 30 || lost > 250 {
		t.Errorf("%d edges, of which %d were not agreed ahead; %d runs have lost something", edges, late, lost)
	}
}

// calm is a world in which nobody is severed any more.
func calm(t *testing.T, w api.World) api.World {
	t.Helper()
	for _, l := range w.Mail.Severed {
		w, _ = steps(t, w, api.Step{Kind: api.StMend, A: l.A, B: l.B})
	}
	return w
}

// rounds does so many rounds, in which nothing is lost and nothing stays in flight: the world, and what is told.
func rounds(t *testing.T, w api.World, n int) (api.World, []api.Told) {
	t.Helper()
	was := w
	var events []api.Told
	for range n {
		got, o := Do(w, round())
		if o.Err != api.OK || len(got.Mail.List) > 0 || got.Lost != was.Lost {
			t.Fatalf("a round: %v, %d in flight, %d lost", o.Err, len(got.Mail.List), got.Lost)
		}
		w, events = got, append(events, o.Events...)
	}
	return w, events
}

// someDown lets nodes crash, so that there are some that are held and down.
func (d dice) someDown(w api.World) api.World {
	for id := range w.Nodes {
		if d.often(1, 4) {
			w, _ = Do(w, crash(id))
		}
	}
	return w
}

// deadAreDropped is T7, behind the rounds: how many edges are held.
func deadAreDropped(t *testing.T, w api.World) int {
	t.Helper()
	edges := 0
	for a, st := range w.Nodes {
		for _, h := range st.Halves {
			if !w.Up[h.Peer] {
				t.Fatalf("%d holds a half-edge to %d, which is down: %+v", a, h.Peer, w)
			}
		}
		for b := range a {
			if w.Up[a] && w.Up[b] && slices.Contains(st.Want, b) && slices.Contains(w.Nodes[b].Want, a) {
				if edges++; !bothHold(w, a, b) {
					t.Fatalf("%d and %d want each other, and do not hold their edge: %+v", a, b, w)
				}
			}
		}
	}
	return edges
}

// P21.11 (T7): the dead are dropped, behind DropRounds rounds, whatever was ahead of them.
func TestP21_11TheDeadAreDropped(t *testing.T) {
	d, edges, dead := newDice(11), 0, 0
	for i := range 150 {
		n := 1 + i%6
		w, _, _ := Run(n, d.script(n, d.Intn(150)))
		w = d.someDown(calm(t, w))
		for id, st := range w.Nodes {
			for _, h := range st.Halves {
				if w.Up[id] && !w.Up[h.Peer] {
					dead++
				}
			}
		}
		w, _ = rounds(t, w, api.DropRounds)
		edges += deadAreDropped(t, w)
	}
	if edges < 250 || dead < 40 {
		t.Errorf("%d edges are held, %d half-edges led to nodes that were down", edges, dead)
	}
}

// Each of many nodes wants six others, and one that it had asked last crashes: it takes as many rounds as there may be.
func TestP21_11ManyNodes(t *testing.T) {
	var l []api.Step
	for a := range 16 {
		for by := 1; by <= 3; by++ {
			l = append(l, link(a, (a+by)%16), link(a, (a+16-by)%16))
		}
	}
	w, outcomes, err := Run(16, append(l, creating(0, "m", api.KMean)))
	for _, o := range outcomes {
		if o.Err != api.OK || err != api.OK {
			t.Fatal(o.Err, err)
		}
	}
	w, _ = rounds(t, w, api.DropRounds)
	if n := deadAreDropped(t, w); n != 48 {
		t.Errorf("%d edges are held", n)
	}
	w, _ = steps(t, w, setting(3, "m", 1600), crash(9))
	w, events := rounds(t, w, api.DropRounds)
	if n := deadAreDropped(t, w); n != 42 {
		t.Errorf("%d edges are held", n)
	}
	var by []int
	for _, e := range events {
		if e.Event.Kind == api.EvDropped {
			if e.Event.Peer != 9 || e.Event.Num != api.DropMiss {
				t.Errorf("%+v", e)
			}
			by = append(by, e.Node)
		}
	}
	slices.Sort(by)
	if !slices.Equal(by, []int{6, 7, 8, 10, 11, 12}) {
		t.Errorf("dropped by %v", by)
	}
	conservedBy(t, w, "m", 1600, 15)
}

// conservedBy asks for the sum of all estimates of nodes that are up, of which there are so many.
func conservedBy(t *testing.T, w api.World, name string, want int64, n int) {
	t.Helper()
	var set []int
	for id, up := range w.Up {
		if up {
			set = append(set, id)
		}
	}
	estimates, inputs, is := sums(w, set, name)
	if !is || len(set) != n || estimates != want || inputs != want || !amongThemselves(w, set, name) {
		t.Errorf("%d nodes have %d, their inputs are %d, want %d: among themselves %t", len(set), estimates, inputs, want, amongThemselves(w, set, name))
	}
}

// group is the nodes that hold edges with one, and with those, and so on.
func group(w api.World, a int) []int {
	set := []int{a}
	for i := 0; i < len(set); i++ {
		for b := range w.Nodes {
			if !slices.Contains(set, b) && bothHold(w, set[i], b) {
				set = append(set, b)
			}
		}
	}
	return set
}

// No mass travels (T10): behind DropRounds rounds each group of nodes that hold their edges is agreed, and has together
// what its inputs are together.
func TestNoMassTravels(t *testing.T) {
	d, groups := newDice(100), map[int]int{}
	for i := range 150 {
		n := 2 + i%5
		w, _, _ := Run(n, d.script(n, d.Intn(200)))
		w, _ = rounds(t, d.someDown(calm(t, w)), api.DropRounds)
		conserved(t, w)
		for a := range w.Nodes {
			set := group(w, a)
			for _, name := range names {
				if !w.Up[a] || slices.ContainsFunc(set, func(b int) bool { return !oneInstance(w, a, b, name) }) {
					continue
				}
				if !amongThemselves(w, set, name) {
					t.Fatalf("run %d: %v are not among themselves, and agreed for %s: %+v", i, set, name, w)
				}
				groups[len(set)]++
			}
		}
	}
	for size := 2; size < 5; size++ {
		if groups[size] < 20 {
			t.Errorf("%d groups of %d", groups[size], size)
		}
	}
}

// extremes hands out the extreme values that nodes which are up have.
func extremes(w api.World, do func(id int, name string, e api.Ext)) {
	for id, st := range w.Nodes {
		for _, s := range st.Chans {
			for _, e := range []api.Ext{s.Min, s.Max} {
				if e.Has {
					do(id, s.Chan.Name, e)
				}
			}
		}
	}
}

// P21.12 (T8): behind MaxAge + 1 rounds nobody has an extreme value of a node that is down, or of an input that was set
// otherwise ahead of them.
func TestP21_12OldValuesGo(t *testing.T) {
	d, sorts := newDice(12), map[string]int{}
	for i := range 120 {
		n := 1 + i%6
		w, _, _ := Run(n, d.script(n, d.Intn(100)))
		w, _ = rounds(t, calm(t, w), d.Intn(8))
		for id := range w.Nodes { // inputs are set otherwise: what is told of the others is old
			if d.often(1, 3) {
				w, _ = Do(w, setting(id, "a", d.Int63n(50)))
			}
		}
		w = d.someDown(w)
		old := func(_ int, name string, e api.Ext) {
			if !w.Up[e.Origin] {
				sorts["of a node that is down"]++
			} else if s := stateOf(w.Nodes[e.Origin], name); !s.Has || s.Input != e.Value {
				sorts["of another input"]++
			}
		}
		extremes(w, old)
		w, events := rounds(t, w, int(api.MaxAge)+1)
		news := slices.ContainsFunc(events, func(e api.Told) bool { return e.Event.Kind == api.EvLearned })
		extremes(w, func(id int, name string, e api.Ext) {
			s := stateOf(w.Nodes[e.Origin], name)
			if !w.Up[e.Origin] || !news && (!s.Has || s.Input != e.Value || s.Chan.Kind != api.KExt) {
				t.Fatalf("run %d: %d has %+v of %s: %+v", i, id, e, name, w)
			}
			if e.Origin != id {
				sorts["of another node, still so"]++
			}
		})
	}
	enough(t, sorts, 30, "of a node that is down", "of another input", "of another node, still so")
}

// Where a value's node is down, it goes when it is 64 ticks old, and not earlier.
func TestP21_12HowOldAValueGrows(t *testing.T) {
	w, _ := pair(t)
	w, _ = steps(t, w, creating(0, "e", api.KExt), flush(), setting(0, "e", 5), setting(1, "e", 9), tick(1), flush(), tick(0), flush())
	if e, err := node.Greatest(w.Nodes[0], "e"); e != (api.Ext{Has: true, Value: 9, Origin: 1}) || err != api.OK {
		t.Fatalf("%+v, %v", e, err)
	}
	w, _ = steps(t, w, crash(1))
	for age := int64(1); age < api.MaxAge; age++ {
		w, _ = rounds(t, w, 1)
		if e, _ := node.Greatest(w.Nodes[0], "e"); e != (api.Ext{Has: true, Value: 9, Origin: 1, Age: age}) {
			t.Fatalf("age %d: %+v", age, e)
		}
	}
	w, _ = rounds(t, w, 1)
	if e, _ := node.Greatest(w.Nodes[0], "e"); e != (api.Ext{Has: true, Value: 5}) {
		t.Errorf("behind that: %+v", e)
	}
}

// P21.13: a run in two pieces is the same as in one, wherever it is cut.
func TestP21_13TwoPieces(t *testing.T) {
	d := newDice(13)
	for i := range 40 {
		n := 1 + i%6
		l := d.script(n, d.Intn(60))
		w, outcomes, err := Run(n, l)
		for _, cut := range []int{0, 1, len(l) / 2, d.Intn(len(l)), len(l) - 1, len(l)} {
			got, o, is := Run(n, l[:cut])
			for _, x := range l[cut:] {
				var out api.Outcome
				got, out = Do(got, x)
				o = append(o, out)
			}
			if !alike(got, w) || !alike(o, outcomes) || is != err {
				t.Fatalf("cut at %d of %d: %+v, want %+v", cut, len(l), got, w)
			}
		}
		again, o, _ := Run(n, l)
		if !alike(again, w) || !alike(o, outcomes) {
			t.Fatal("one run twice is another one")
		}
	}
}

// A crash, and DropRounds rounds: what went over to the dead is back, at each place of the crash.
func TestP21_11MassComesBack(t *testing.T) {
	for ticks := range 12 {
		w := shared(t)
		for i := range ticks {
			w, _ = steps(t, w, setting(i%2, "m", int64(100*i)), tick(i%2))
			if i%3 > 0 {
				w, _ = steps(t, w, flush())
			}
		}
		w, _ = steps(t, w, crash(1))
		input := stateOf(w.Nodes[0], "m").Input
		w, events := rounds(t, w, api.DropRounds)
		events = slices.DeleteFunc(events, func(e api.Told) bool { return e.Event.Kind == api.EvBalanced }) // on what 1 had asked
		eventsAre(t, "behind the crash", events, dropped(0, 1, api.DropMiss))
		if n := deadAreDropped(t, w); n != 0 {
			t.Errorf("%d edges are held", n)
		}
		estimateIs(t, w, 0, "m", input)
	}
}
