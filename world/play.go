package world

import (
	"iter"

	"eddy/api"
	"eddy/bag"
	"eddy/node"
	"eddy/wire"
)

// play is a world in which steps are done. Its Mail is not kept: the bag has it.
type play struct {
	api.World
	bag    *bag.Bag
	flying []int64    // the numbers of what is in flight, place by place, as the bag tells no place by itself
	events []api.Told // of the step that is being done
}

// act is what is done at a node.
type act func(st api.Node) (api.Node, []api.Packet, []api.Event, api.Errno)

// sure is what comes of an act that knows no error.
func sure(st api.Node, packets []api.Packet, events []api.Event) (api.Node, []api.Packet, []api.Event, api.Errno) {
	return st, packets, events, api.OK
}

// start is the play of a world that has just begun.
func start(n int) (*play, api.Errno) {
	if !size(n) {
		return nil, api.ErrNumber
	}
	p := &play{bag: bag.New()}
	for id := range n {
		p.Nodes = append(p.Nodes, down(id))
		p.Up = append(p.Up, false)
		p.Disks = append(p.Disks, make([]byte, diskSize))
		p.restart(api.Step{A: id, N: -1})
	}
	return p, api.OK
}

// open is the play of a world. (Where its Mail is not fit, the bag is nil, and stays empty.)
func open(w api.World) *play {
	b, _ := bag.Of(w.Mail)
	p := &play{bag: b, flying: b.Between(-1, -1)}
	for _, st := range w.Nodes {
		p.Nodes = append(p.Nodes, own(st))
	}
	for _, d := range w.Disks {
		p.Disks = append(p.Disks, list(d))
	}
	p.Up, p.Lost = list(w.Up), w.Lost
	return p
}

// list is a list in memory of its own, without spare room of the one that is given.
func list[T any](l []T) []T { return append([]T(nil), l...) }

// own is a node in memory of its own.
func own(st api.Node) api.Node {
	st.Want, st.Seen, st.Halves, st.Chans = list(st.Want), list(st.Seen), list(st.Halves), list(st.Chans)
	for i, h := range st.Halves {
		st.Halves[i].Lines = list(h.Lines)
	}
	return st
}

// world is what the play has come to.
func (p *play) world() api.World {
	w := p.World
	w.Mail = p.bag.State()
	return w
}

// do does a step.
func (p *play) do(s api.Step) api.Outcome {
	if err := p.deed(s)(s); err != api.OK {
		return api.Outcome{Err: err}
	}
	o := api.Outcome{Events: p.events}
	p.events = nil
	return o
}

// has tells whether an id is that of a node. (All three lists are asked, as those of a world that is not fit may differ.)
func (p *play) has(id int) bool {
	return among(id, len(p.Nodes)) && among(id, len(p.Up)) && among(id, len(p.Disks))
}

// awake hands out the nodes that are up, in rising order.
func (p *play) awake() iter.Seq[int] {
	return func(yield func(int) bool) {
		for id, up := range p.Up {
			if up && !yield(id) {
				return
			}
		}
	}
}

// ready tells what stands ahead of whatever is done at a node that is to be up.
func (p *play) ready(id int) api.Errno {
	switch {
	case !p.has(id):
		return api.ErrNode
	case !p.Up[id]:
		return api.ErrDown
	}
	return api.OK
}

// at does something at a node: what comes about is told, what it sends is put.
func (p *play) at(id int, do act) api.Errno {
	if err := p.ready(id); err != api.OK {
		return err
	}
	st, packets, events, err := do(p.Nodes[id])
	if err != api.OK {
		return err
	}
	p.Nodes[id] = st
	for _, e := range events {
		p.events = append(p.events, api.Told{Node: id, Event: e})
	}
	for _, x := range packets {
		p.put(p.bag.Put(x.From, x.To, string(wire.Encode(x))))
	}
	return api.OK
}

// put keeps the number of a packet that was put, or counts it as lost.
func (p *play) put(number int64, err api.Errno) {
	if err != api.OK {
		p.lose(1)
		return
	}
	p.flying = append(p.flying, number)
}

// lose counts packets that are lost.
func (p *play) lose(n int) { p.Lost = min(p.Lost, mostLost-int64(n)) + int64(n) }

// take takes out the packet at a place. What stands ahead of it moves, as it is mostly the first one that is taken.
func (p *play) take(at int) api.Datagram {
	d, _ := p.bag.Take(p.flying[at])
	copy(p.flying[1:at+1], p.flying[:at])
	p.flying = p.flying[1:]
	return d
}

// land delivers the packet at a place; at a node that is down it is gone.
func (p *play) land(at int) {
	d := p.take(at)
	x, _ := wire.Decode([]byte(d.Body)) // it is one: the world is fit
	p.at(d.To, func(st api.Node) (api.Node, []api.Packet, []api.Event, api.Errno) { return sure(node.Receive(st, x)) })
}
