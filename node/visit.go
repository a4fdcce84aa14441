package node

import (
	"iter"

	"eddy/api"
	"eddy/book"
	"eddy/chans"
	"eddy/half"
	"eddy/miss"
	"eddy/shake"
	"eddy/topo"
	"eddy/trade"
	"eddy/wire"
)

// way is how a packet goes on behind a step.
type way int

const (
	onward way = iota // to the next step
	over              // it is passed over
	done              // there is nothing more to do
)

// visit is a packet on its way through a node.
type visit struct {
	*call
	p     api.Packet
	begun bool // the half-edge was held anew
	news  bool // a record was learned
}

// receive takes a packet through all of its steps, or as far as it comes.
func (c *call) receive(p api.Packet) {
	v := &visit{call: c, p: p}
through:
	for step := range v.steps() {
		switch step() {
		case over:
			v.ignore()
			break through
		case done:
			break through
		}
	}
}

// steps hands out what is done with the packet, step by step.
func (v *visit) steps() iter.Seq[func() way] {
	return func(yield func(func() way) bool) {
		if !yield(v.enter) || !yield(v.judge) {
			return
		}
		for _, step := range v.good() {
			if !yield(step) {
				return
			}
		}
	}
}

// good is what is done with a good packet, by its kind.
func (v *visit) good() []func() way {
	switch v.p.Kind {
	case api.PkWelcome:
		return []func() way{v.hear, v.follow}
	case api.PkAsk:
		return []func() way{v.hear, v.learn, v.merge, v.answer, v.follow}
	case api.PkAnswer:
		return []func() way{v.hear, v.answered, v.learn, v.merge, v.follow}
	case api.PkBye:
		return []func() way{v.leave}
	}
	return nil
}

// ignore tells that the packet is passed over.
func (v *visit) ignore() {
	v.tell(api.Event{Kind: api.EvIgnored, Peer: v.p.From, Num: int64(v.p.Kind)})
}

// enter passes over what is no packet for this node.
func (v *visit) enter() way {
	if !wire.Fit(v.p) || v.p.To != v.Id || !topo.Has(v.Want, v.p.From) {
		return over
	}
	return onward
}

// judge lets good packets on.
func (v *visit) judge() way {
	switch shake.Judge(v.Seen, v.Boot, v.p) {
	case api.JdGood:
		v.Seen = shake.See(v.Seen, v.p.From, v.p.Boot, v.p.Life)
		return onward
	case api.JdWelcome:
		v.send(shake.Welcome(v.Id, v.Boot, v.Seen, v.p))
		return done
	}
	return over
}

// leave drops the half-edge, if the packet is of the incarnation that it names.
func (v *visit) leave() way {
	if !shake.Parts(v.Halves, v.p) {
		return over
	}
	v.drop(v.p.From, api.DropBye)
	return onward
}

// hear holds the half-edge anew, or leaves it without misses.
func (v *visit) hear() way {
	v.begun = shake.Begins(v.Halves, v.p)
	if !v.begun {
		v.hold(miss.Heard(v.end()))
		return onward
	}
	v.hold(half.Begin(v.p.From, v.p.Boot, v.p.Life))
	v.tell(api.Event{Kind: api.EvHeld, Peer: v.p.From, Num: v.p.Boot})
	return onward
}

// answered lets nothing be pending any more.
func (v *visit) answered() way {
	v.hold(miss.Answered(v.end()))
	return onward
}

// end is the half-edge to the packet's sender.
func (v *visit) end() api.Half {
	h, _ := half.Find(v.Halves, v.p.From)
	return h
}

// learn takes in the records.
func (v *visit) learn() way {
	for _, x := range v.p.Items {
		if states, changed := chans.Learn(v.Chans, x.Chan); changed {
			v.news = true
			v.learned(states, x.Chan.Name)
		}
	}
	return onward
}

// merge takes in what is said of instances that the node has. What kind they are its own record says: that of a sender
// that has crashed may say otherwise.
func (v *visit) merge() way {
	for _, x := range v.p.Items {
		if !chans.Own(v.Chans, x.Chan) {
			continue
		}
		s, _ := chans.Find(v.Chans, x.Chan.Name)
		if chans.Flows(s.Chan.Kind) {
			v.flow(s, x)
		} else {
			v.Chans = chans.Hear(v.Chans, v.Id, s.Chan.Name, x.Min, x.Max)
		}
	}
	return onward
}

// flow merges a register, and balances the edge if that is asked for.
func (v *visit) flow(s api.State, x api.Item) {
	h, _ := half.Merge(v.Id, v.end(), s.Chan.Name, x.Reg)
	v.hold(h)
	if v.p.Kind == api.PkAsk && x.HasRest {
		v.balance(h, s, x.Rest)
	}
}

// balance moves half the difference of the estimates at the two ends of the edge, of which the other one told its rest.
func (v *visit) balance(h api.Half, s api.State, told int64) {
	name := s.Chan.Name
	rest, err := book.Rest(v.Id, s.Input, v.Halves, name, h.Peer)
	if err != api.OK {
		v.beyond(h.Peer, name)
		return
	}
	even, amount, err := trade.Balance(v.Id, h.Peer, half.Reg(h, name), rest, told)
	switch {
	case err != api.OK:
		v.beyond(h.Peer, name)
	case amount != 0:
		v.hold(half.Write(h, name, even))
		v.tell(api.Event{Kind: api.EvBalanced, Peer: h.Peer, Name: name, Num: amount})
	}
}

// answer sends the Answer. It tells no rests, as nothing is balanced on it.
func (v *visit) answer() way {
	items := Items(v.Node, v.p.From)
	for i := range items {
		items[i].HasRest, items[i].Rest = false, 0
	}
	v.send(v.packet(api.PkAnswer, v.end(), items))
	return onward
}

// follow asks the sender, if the edge to it was held anew, and everybody, if there is news.
func (v *visit) follow() way {
	v.asks(func(peer int) bool { return v.news || v.begun && peer == v.p.From })
	return onward
}
