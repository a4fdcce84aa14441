package world

import (
	"eddy/api"
	"eddy/bag"
	"eddy/boot"
	"eddy/node"
	"eddy/wire"
)

const (
	mostLost int64 = 1 << 62
	diskSize       = boot.Sectors * api.SectorSize
)

// size tells whether there can be a world of so many nodes.
func size(n int) bool { return 1 <= n && n <= api.MaxNodes }

// among tells whether an id is that of one of n nodes.
func among(id, n int) bool { return 0 <= id && id < n }

// Fit tells whether a world is one.
func Fit(w api.World) bool {
	n := len(w.Nodes)
	if !size(n) || len(w.Up) != n || len(w.Disks) != n {
		return false
	}
	for id := range n {
		if !place(w, id) {
			return false
		}
	}
	return mail(w.Mail, n) && 0 <= w.Lost && w.Lost <= mostLost
}

// place tells whether a node and its disk are such as may stand at a place.
func place(w api.World, id int) bool {
	st := w.Nodes[id]
	if st.Id != id || len(w.Disks[id]) != diskSize {
		return false
	}
	if !w.Up[id] {
		return node.Same(st, down(id))
	}
	return node.Fit(st) && wants(st, len(w.Nodes))
}

// down is a node that is down.
func down(id int) api.Node { return api.Node{Id: id} }

// wants tells whether a node wants none but the first n.
func wants(st api.Node, n int) bool {
	for _, v := range st.Want {
		if !among(v, n) {
			return false
		}
	}
	return true
}

// mail tells whether what is in flight, and what is severed, are such as may be among n nodes.
func mail(m api.Mail, n int) bool {
	if _, is := bag.Of(m); !is {
		return false
	}
	for _, d := range m.List {
		if !flies(d, n) {
			return false
		}
	}
	for _, l := range m.Severed {
		if !among(l.A, n) || !among(l.B, n) {
			return false
		}
	}
	return true
}

// flies tells whether a packet may be in flight among n nodes.
func flies(d api.Datagram, n int) bool {
	x, err := wire.Decode([]byte(d.Body))
	return err == api.OK && x.From == d.From && x.To == d.To && among(d.From, n) && among(d.To, n)
}

// Step tells whether a step is one: it has a kind, and nothing that its kind does not use.
func Step(s api.Step) bool {
	return api.StLink <= s.Kind && s.Kind <= api.StMend && s == used(s)
}

// used is what the kind of a step uses of it. (There is no packet at a place below 0.)
func used(s api.Step) api.Step {
	u := api.Step{Kind: s.Kind}
	switch s.Kind {
	case api.StLink, api.StUnlink, api.StSever, api.StMend:
		u.A, u.B = s.A, s.B
	case api.StCreate:
		u.A, u.Name, u.K, u.N = s.A, s.Name, s.K, s.N
	case api.StDelete:
		u.A, u.Name = s.A, s.Name
	case api.StSet:
		u.A, u.Name, u.N = s.A, s.Name, s.N
	case api.StTick, api.StCrash:
		u.A = s.A
	case api.StRestart:
		u.A, u.N = s.A, s.N
	case api.StDeliver, api.StDrop, api.StDouble:
		u.N = max(s.N, 0)
	}
	return u
}
