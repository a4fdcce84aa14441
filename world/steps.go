package world

import (
	"eddy/api"
	"eddy/boot"
	"eddy/disk"
	"eddy/node"
)

// deed is how a step is done.
func (p *play) deed(s api.Step) func(s api.Step) api.Errno {
	if !Step(s) {
		return p.refuse
	}
	switch s.Kind {
	case api.StLink:
		return p.link
	case api.StUnlink:
		return p.unlink
	case api.StCreate:
		return p.create
	case api.StDelete:
		return p.remove
	case api.StSet:
		return p.set
	case api.StTick:
		return p.tick
	case api.StDeliver:
		return p.deliver
	case api.StDrop:
		return p.drop
	case api.StDouble:
		return p.double
	case api.StCrash:
		return p.crash
	case api.StRestart:
		return p.restart
	case api.StFlush:
		return p.flush
	case api.StRound:
		return p.round
	case api.StSever:
		return p.sever
	case api.StMend:
		return p.mend
	}
	return p.refuse
}

// refuse is what becomes of what is no step.
func (p *play) refuse(api.Step) api.Errno { return api.ErrStep }

func (p *play) link(s api.Step) api.Errno {
	if !p.has(s.B) {
		return api.ErrNode
	}
	return p.at(s.A, func(st api.Node) (api.Node, []api.Packet, []api.Event, api.Errno) { return node.Link(st, s.B) })
}

func (p *play) unlink(s api.Step) api.Errno {
	if !p.has(s.B) {
		return api.ErrNode
	}
	return p.at(s.A, func(st api.Node) (api.Node, []api.Packet, []api.Event, api.Errno) { return node.Unlink(st, s.B) })
}

func (p *play) create(s api.Step) api.Errno {
	return p.at(s.A, func(st api.Node) (api.Node, []api.Packet, []api.Event, api.Errno) {
		return node.Create(st, s.Name, s.K, s.N)
	})
}

func (p *play) remove(s api.Step) api.Errno {
	return p.at(s.A, func(st api.Node) (api.Node, []api.Packet, []api.Event, api.Errno) { return node.Delete(st, s.Name) })
}

func (p *play) set(s api.Step) api.Errno {
	return p.at(s.A, func(st api.Node) (api.Node, []api.Packet, []api.Event, api.Errno) {
		told, err := node.Set(st, s.Name, s.N)
		return told, nil, nil, err
	})
}

func (p *play) tick(s api.Step) api.Errno {
	return p.at(s.A, func(st api.Node) (api.Node, []api.Packet, []api.Event, api.Errno) { return sure(node.Tick(st)) })
}

// pick is the place that a step means; false: nothing is in flight.
func (p *play) pick(s api.Step) (int, bool) {
	n := len(p.flying)
	if n == 0 {
		return 0, false
	}
	return int(s.N % int64(n)), true
}

func (p *play) deliver(s api.Step) api.Errno {
	if at, is := p.pick(s); is {
		p.land(at)
	}
	return api.OK
}

func (p *play) drop(s api.Step) api.Errno {
	if at, is := p.pick(s); is {
		p.take(at)
	}
	return api.OK
}

func (p *play) double(s api.Step) api.Errno {
	if at, is := p.pick(s); is {
		p.put(p.bag.Double(p.flying[at]))
	}
	return api.OK
}

func (p *play) crash(s api.Step) api.Errno {
	if err := p.ready(s.A); err != api.OK {
		return err
	}
	p.Nodes[s.A], p.Up[s.A] = down(s.A), false
	return api.OK
}

// restart keeps what the disk has come to, also where the power has gone: half a record may stand there then.
func (p *play) restart(s api.Step) api.Errno {
	switch {
	case !p.has(s.A):
		return api.ErrNode
	case p.Up[s.A]:
		return api.ErrUp
	}
	d := disk.Load(p.Disks[s.A])
	d.Cut(int(s.N))
	number, err := boot.Next(d)
	p.Disks[s.A] = d.Image()
	if err != api.OK {
		return err
	}
	p.Nodes[s.A], p.Up[s.A] = node.New(s.A, number), true
	return api.OK
}

// flush is bounded, as packets bring forth others.
func (p *play) flush(api.Step) api.Errno {
flying:
	for range api.MaxFlush {
		if len(p.flying) == 0 {
			break flying
		}
		p.land(0)
	}
	return api.OK
}

func (p *play) round(s api.Step) api.Errno {
	for id := range p.awake() {
		p.tick(api.Step{A: id})
	}
	return p.flush(s)
}

// two tells what stands ahead of whatever is done between two nodes.
func (p *play) two(s api.Step) api.Errno {
	switch {
	case !p.has(s.A), !p.has(s.B):
		return api.ErrNode
	case s.A == s.B:
		return api.ErrSelf
	}
	return api.OK
}

func (p *play) sever(s api.Step) api.Errno {
	if err := p.two(s); err != api.OK {
		return err
	}
	p.lose(p.bag.Sever(s.A, s.B))
	p.flying = p.bag.Between(-1, -1)
	return api.OK
}

func (p *play) mend(s api.Step) api.Errno {
	if err := p.two(s); err != api.OK {
		return err
	}
	p.bag.Mend(s.A, s.B)
	return api.OK
}
