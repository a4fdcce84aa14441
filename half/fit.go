package half

import (
	"eddy/api"
	"eddy/reg"
)

// Fit tells whether a half-edge is one of a node.
func Fit(id int, h api.Half) bool {
	return isNode(id) && isNode(h.Peer) && h.Peer != id && within(1, h.Boot, api.MaxBoot) && within(0, h.Life, api.MaxLife) && misses(h) && lines(id, h)
}

// Fits tells whether half-edges are a node's.
func Fits(id int, l []api.Half) bool {
	last := -1 // below all peers
	for peer, h := range toward(l) {
		if peer <= last || !Fit(id, h) {
			return false
		}
		last = peer
	}
	return isNode(id)
}

func isNode(n int) bool { return n >= 0 && n < api.MaxNodes }

// within tells whether x is from least to most.
func within(least, x, most int64) bool { return least <= x && x <= most }

// misses tells whether a half-edge may have the misses that it has.
func misses(h api.Half) bool {
	return h.Misses == 0 || h.Pending && h.Misses > 0 && h.Misses < api.MissLimit
}

// lines tells whether a half-edge may have the lines that it has.
func lines(id int, h api.Half) bool {
	if len(h.Lines) > api.MaxChans {
		return false
	}
	last := "" // ahead of all names
	for name, r := range named(h.Lines) {
		if name <= last || !isName(name) || r == (api.Reg{}) || !reg.Fit(r, id, h.Peer) {
			return false
		}
		last = name
	}
	return true
}

// isName tells whether a text is a channel's name.
func isName(s string) bool {
	if len(s) < 1 || len(s) > api.MaxName {
		return false
	}
	for i := range len(s) {
		if !isLetter(s[i]) {
			return false
		}
	}
	return true
}

// isLetter tells whether a byte may stand in a name.
func isLetter(c byte) bool {
	return 'a' <= c && c <= 'z' || '0' <= c && c <= '9' || c == '_'
}
