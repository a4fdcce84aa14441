package node

import (
	"eddy/api"
	"eddy/chans"
	"eddy/dir"
	"eddy/half"
	"eddy/miss"
	"eddy/shake"
	"eddy/topo"
)

// call is a node while it is called: its state as it is by then, who takes the packets that it sends, and who is told
// what comes about.
type call struct {
	api.Node
	send func(p api.Packet)
	tell func(e api.Event)
}

// within does something at a node: the state behind it, what was sent and what came about.
func within(st api.Node, do func(c *call)) (api.Node, []api.Packet, []api.Event) {
	var packets []api.Packet
	var events []api.Event
	c := &call{
		Node: own(st),
		send: func(p api.Packet) { packets = append(packets, p) },
		tell: func(e api.Event) { events = append(events, e) },
	}
	do(c)
	return c.Node, packets, events
}

// record lets a node have the states that a record of its own making has led to, but for an error.
func record(st api.Node, states []api.State, name string, err api.Errno) (api.Node, []api.Packet, []api.Event, api.Errno) {
	if err != api.OK {
		return own(st), nil, nil, err
	}
	changed, packets, events := within(st, func(c *call) {
		c.learned(states, name)
		c.asks(func(int) bool { return true })
	})
	return changed, packets, events, api.OK
}

func (c *call) tick() {
	c.Ticks = min(c.Ticks, api.MaxTick-1) + 1
	c.Chans = chans.Tick(c.Chans, c.Id)
	if peer, turn, ok := topo.Next(c.Want, c.Turn); ok {
		c.Turn = turn
		c.turn(peer)
	}
}

// turn is a peer's turn.
func (c *call) turn(peer int) {
	if h, held := half.Find(c.Halves, peer); held {
		waiting, does := miss.Turn(h)
		if does == api.TkAsk {
			c.ask(waiting)
			return
		}
		c.drop(peer, api.DropMiss)
	}
	c.send(shake.Hello(c.Id, c.Boot, c.Seen, peer))
}

// ask sends an Ask to the peer of a half-edge, which waits for the answer then.
func (c *call) ask(h api.Half) {
	c.hold(miss.Asked(h))
	items := Items(c.Node, h.Peer)
	for _, x := range items {
		if x.Chan.Alive && chans.Flows(x.Chan.Kind) && !x.HasRest {
			c.beyond(h.Peer, x.Chan.Name)
		}
	}
	c.send(c.packet(api.PkAsk, h, items))
}

// asks sends an Ask on each half-edge to a peer that is to be asked.
func (c *call) asks(whom func(peer int) bool) {
	for _, h := range half.Copy(c.Halves) {
		if whom(h.Peer) {
			c.ask(h)
		}
	}
}

// part drops the half-edge to a peer that is wanted no more, if there is one, and tells it so.
func (c *call) part(peer int) {
	h, held := half.Find(c.Halves, peer)
	if !held {
		return
	}
	c.send(c.packet(api.PkBye, h, nil)) // which bears the life that was
	c.drop(peer, api.DropUnlink)
}

// drop drops the half-edge to a peer.
func (c *call) drop(peer int, why int64) {
	c.Halves, _ = half.Drop(c.Halves, peer)
	c.Seen = shake.Dropped(c.Seen, peer)
	c.tell(api.Event{Kind: api.EvDropped, Peer: peer, Num: why})
}

// hold lets a half-edge stand in the place of the one to its peer.
func (c *call) hold(h api.Half) { c.Halves = half.Put(c.Halves, h) }

// learned lets the node have states of which that of a name has begun anew: so do its registers.
func (c *call) learned(states []api.State, name string) {
	c.Chans, c.Halves = states, half.Forget(c.Halves, name)
	r, _ := dir.Find(chans.Records(states), name)
	c.tell(api.Event{Kind: api.EvLearned, Name: name, Num: r.Epoch})
}

// beyond tells that a number of a channel would leave its range.
func (c *call) beyond(peer int, name string) {
	c.tell(api.Event{Kind: api.EvRange, Peer: peer, Name: name})
}

// packet is a packet to the incarnation that a half-edge names.
func (c *call) packet(kind int, h api.Half, items []api.Item) api.Packet {
	mine := shake.Get(c.Seen, h.Peer).Mine
	return api.Packet{Kind: kind, From: c.Id, To: h.Peer, Boot: c.Boot, Life: mine, Echo: h.Boot, EchoLife: h.Life, Items: items}
}
