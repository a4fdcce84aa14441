package shake

import "eddy/api"

// pair is a boot number and a life.
type pair struct{ boot, life int64 }

// later tells whether a pair is later than another one.
func (p pair) later(than pair) bool {
	if p.boot != than.boot {
		return p.boot > than.boot
	}
	return p.life > than.life
}

// incarnation is a pair, and whose it is.
type incarnation struct {
	node int
	pair
}

// latest is the incarnation that was seen of a peer.
func latest(s api.Seen) incarnation { return incarnation{s.Peer, pair{s.Boot, s.Life}} }

// sender is the incarnation that a packet comes from.
func sender(p api.Packet) incarnation { return incarnation{p.From, pair{p.Boot, p.Life}} }

// named is the incarnation that a half-edge names.
func named(h api.Half) incarnation { return incarnation{h.Peer, pair{h.Boot, h.Life}} }

// isEntry tells whether an incarnation may stand among those that were seen, with the node's own life towards it.
func isEntry(i incarnation, mine int64) bool {
	if !isNode(i.node) || !within(i.boot, api.MaxBoot) || !within(i.life, api.MaxLife) || !within(mine, api.MaxLife) {
		return false
	}
	return i.boot > 0 || i.life == 0 && mine > 0 // of a peer that was not seen only a life towards it is worth an entry
}

func isNode(n int) bool { return n >= 0 && n < api.MaxNodes }

// within tells whether x is from 0 to most.
func within(x, most int64) bool { return 0 <= x && x <= most }
