package node

import (
	"fmt"
	"slices"
	"testing"

	"eddy/api"
)

// act is a call at a node, with what it is given.
type act struct {
	call string
	v    int
	name string
	kind int
	x    int64
	p    api.Packet
}

// came is what has come of a call.
type came struct {
	st      api.Node
	packets []api.Packet
	events  []api.Event
	err     api.Errno
}

// do calls the node.
func (a act) do(st api.Node) came {
	var c came
	switch a.call {
	case "Tick":
		c.st, c.packets, c.events = Tick(st)
	case "Receive":
		c.st, c.packets, c.events = Receive(st, a.p)
	case "Link":
		c.st, c.packets, c.events, c.err = Link(st, a.v)
	case "Unlink":
		c.st, c.packets, c.events, c.err = Unlink(st, a.v)
	case "Create":
		c.st, c.packets, c.events, c.err = Create(st, a.name, a.kind, a.x)
	case "Delete":
		c.st, c.packets, c.events, c.err = Delete(st, a.name)
	case "Set":
		c.st, c.err = Set(st, a.name, a.x)
	}
	return c
}

// say says by the document's words what comes of it.
func (a act) say(st api.Node) came {
	s, err := say(st), api.OK
	switch a.call {
	case "Tick":
		s.tick()
	case "Receive":
		s.receive(a.p)
	case "Link":
		err = s.link(a.v)
	case "Unlink":
		err = s.unlink(a.v)
	case "Create":
		err = s.create(a.name, a.kind, a.x)
	case "Delete":
		err = s.remove(a.name)
	case "Set":
		err = s.set(a.name, a.x)
	}
	return came{s.node(), s.packets, s.events, err}
}

func (c came) same(d came) bool {
	return alike(c.st, d.st) && samePackets(c.packets, d.packets) && slices.Equal(c.events, d.events) && c.err == d.err
}

// check calls a node, and holds what comes of it against the words and against what holds of all calls (P20.9, P20.11,
// and what is told beside an error).
func check(t *testing.T, st api.Node, a act) came {
	t.Helper()
	c := a.do(st)
	if want := a.say(st); !c.same(want) {
		t.Fatalf("%+v at %+v:\n%+v\nwant\n%+v", a, st, c, want)
	}
	if !sayFit(c.st) || !Fit(c.st) {
		t.Fatalf("%+v at %+v: %+v is not fit", a, st, c.st)
	}
	if c.err != api.OK && (len(c.packets) > 0 || len(c.events) > 0 || !alike(c.st, st)) {
		t.Fatalf("%+v at %+v: beside an error %+v", a, st, c)
	}
	asked := map[int]bool{}
	for _, p := range c.packets {
		if !sayPacket(p) || p.From != st.Id || p.Boot != st.Boot {
			t.Fatalf("%+v at %+v: %+v is not fit, or not of the node", a, st, p)
		}
		if p.Kind != api.PkAsk {
			continue
		}
		if asked[p.To] || !slices.ContainsFunc(c.st.Halves, func(h api.Half) bool { return h.Peer == p.To && h.Pending }) {
			t.Fatalf("%+v at %+v: asks %d twice, or holds no edge to it on which an ask is pending", a, st, p.To)
		}
		asked[p.To] = true
	}
	return c
}

// act is a call with arguments of all sorts, mostly such as do something at this node.
func (d dice) act(st api.Node) act {
	a := act{call: pick(d, []string{"Tick", "Tick", "Receive", "Receive", "Receive", "Link", "Unlink", "Create", "Delete", "Set"}), v: d.Intn(18) - 1, name: pick(d, texts())}
	if len(st.Want) > 0 && d.often(1, 2) {
		a.v = pick(d, st.Want)
	}
	if len(st.Chans) > 0 && d.often(1, 2) {
		a.name = pick(d, st.Chans).Chan.Name
	}
	switch a.call {
	case "Receive":
		a.p = d.packet(st)
	case "Create":
		a.kind, a.x = d.Intn(6), pick(d, []int64{0, 1, 1, 1, 1, 2, mostScale, mostScale + 1})
	case "Set":
		a.x = pick(d, []int64{d.number(), d.number(), 0, 1, 2, 46340, 46341, most, most + 1, -most - 1})
	}
	return a
}

// sort is of which sort a call was, by what has come of it.
func (a act) sort(c came) []string {
	l := []string{fmt.Sprint(a.call, " ", int(c.err))}
	for _, e := range c.events {
		s := fmt.Sprint(a.call, " tells ", e.Kind)
		if e.Kind == api.EvDropped {
			s = fmt.Sprint(s, " ", e.Num)
		}
		l = append(l, s)
	}
	for _, p := range c.packets {
		l = append(l, fmt.Sprint(a.call, " sends ", p.Kind))
	}
	return l
}

// All calls at fit states of all sorts, by the words.
func TestCallsByTheWords(t *testing.T) {
	d, sorts := newDice(203), map[string]int{}
	for range 40000 {
		st := d.fit()
		for range 3 {
			a := d.act(st)
			c := check(t, st, a)
			for _, s := range a.sort(c) {
				sorts[s]++
			}
		}
	}
	enough(t, sorts, 25,
		"Tick 0", "Tick tells 2 1", "Tick tells 4", "Tick sends 1", "Tick sends 3",
		"Receive tells 1", "Receive tells 2 2", "Receive tells 3", "Receive tells 4", "Receive tells 5", "Receive tells 6",
		"Receive sends 2", "Receive sends 3", "Receive sends 4",
		"Link 0", "Link 40", "Link 41", "Link 42", "Link 43", "Unlink 0", "Unlink 44", "Unlink tells 2 3", "Unlink sends 5",
		"Create 0", "Create 45", "Create 46", "Create 47", "Create 42", "Create 48", "Create 33", "Create tells 4", "Create tells 5", "Create sends 3",
		"Delete 0", "Delete 44", "Delete 33", "Delete tells 4", "Delete tells 5", "Delete sends 3",
		"Set 0", "Set 44", "Set 49", "Set 10")
}

// enough says of which sorts there were too few, and whether there were others.
func enough(t *testing.T, sorts map[string]int, least int, wanted ...string) {
	t.Helper()
	for _, s := range wanted {
		if sorts[s] < least {
			t.Errorf("%d of %q", sorts[s], s)
		}
		delete(sorts, s)
	}
	for s, n := range sorts {
		if s != "Receive 0" {
			t.Errorf("%d of %q, of which there may be none", n, s)
		}
	}
}

// One packet behind the other at one node, by the words: what one has left the next one finds.
func TestRowsByTheWords(t *testing.T) {
	d, sorts := newDice(204), map[string]int{}
	for range 400 {
		st := d.fit()
		for range 150 {
			a := d.act(st)
			c := check(t, st, a)
			st = c.st
			for _, s := range a.sort(c) {
				sorts[s]++
			}
		}
	}
	for _, s := range []string{"Tick tells 2 1", "Tick tells 4", "Receive tells 1", "Receive tells 2 2", "Receive tells 3", "Receive tells 4", "Receive tells 5", "Create tells 4", "Unlink sends 5"} {
		if sorts[s] < 50 {
			t.Errorf("%d of %q", sorts[s], s)
		}
	}
}

// What is only asked of a state, by the words.
func TestQuestionsByTheWords(t *testing.T) {
	d, errs := newDice(205), map[string]int{}
	for range 20000 {
		st := d.fit()
		s := say(st)
		for _, name := range append(texts(), "") {
			x, err := Estimate(st, name)
			if want, is := s.number(name, -1); x != want || err != is {
				t.Fatalf("Estimate %q at %+v: %d, %d, want %d, %d", name, st, x, err, want, is)
			}
			errs[fmt.Sprint("Estimate ", int(err))]++
			peer := d.Intn(20) - 2
			x, err = Rest(st, name, peer)
			if want, is := s.number(name, peer); x != want || err != is {
				t.Fatalf("Rest %q towards %d at %+v: %d, %d, want %d, %d", name, peer, st, x, err, want, is)
			}
			errs[fmt.Sprint("Rest ", int(err))]++
			e, err := Least(st, name)
			if want, is := s.extreme(name, false); e != want || err != is {
				t.Fatalf("Least %q at %+v: %+v, %d, want %+v, %d", name, st, e, err, want, is)
			}
			errs[fmt.Sprint("Least ", int(err))]++
			e, err = Greatest(st, name)
			if want, is := s.extreme(name, true); e != want || err != is {
				t.Fatalf("Greatest %q at %+v: %+v, %d, want %+v, %d", name, st, e, err, want, is)
			}
			errs[fmt.Sprint("Greatest ", int(err))]++
		}
		peer := d.Intn(20) - 2
		if want, _ := s.items(peer, true); !slices.Equal(Items(st, peer), want) {
			t.Fatalf("Items towards %d at %+v: %+v, want %+v", peer, st, Items(st, peer), want)
		}
	}
	enough(t, errs, 1000, "Estimate 0", "Estimate 10", "Estimate 44", "Estimate 46", "Rest 0", "Rest 10", "Rest 44", "Rest 46",
		"Least 0", "Least 44", "Least 46", "Least 50", "Greatest 0", "Greatest 44", "Greatest 46", "Greatest 50")
}
