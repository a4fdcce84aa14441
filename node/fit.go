package node

import (
	"slices"

	"eddy/api"
	"eddy/chans"
	"eddy/half"
	"eddy/shake"
	"eddy/topo"
)

// Fit tells whether a node's state is one. (Whether Id is a node's number, the parts ask.)
func Fit(st api.Node) bool {
	return from(1, st.Boot, api.MaxBoot) && from(0, st.Ticks, api.MaxTick) && parts(st) && ends(st)
}

// from tells whether x is from least to most.
func from(least, x, most int64) bool { return least <= x && x <= most }

// parts tells whether the lists of a state are fit, each by itself.
func parts(st api.Node) bool {
	return topo.Fit(st.Id, st.Want, st.Turn) && shake.Fit(st.Id, st.Seen) && half.Fits(st.Id, st.Halves) && chans.Fit(st.Id, st.Chans)
}

// ends tells whether half-edges go with what else a node has.
func ends(st api.Node) bool {
	for _, h := range st.Halves {
		s := shake.Get(st.Seen, h.Peer)
		if !topo.Has(st.Want, h.Peer) || shake.Later(h.Boot, h.Life, s.Boot, s.Life) || !lines(st, h) {
			return false
		}
	}
	return true
}

// lines tells whether all lines of a half-edge are those of channels that flow.
func lines(st api.Node, h api.Half) bool {
	for _, x := range h.Lines {
		if _, err := alive(st, x.Name, true); err != api.OK {
			return false
		}
	}
	return true
}

// Same tells whether two states are the same.
func Same(a, b api.Node) bool {
	return a.Id == b.Id && a.Boot == b.Boot && a.Ticks == b.Ticks && slices.Equal(a.Want, b.Want) && a.Turn == b.Turn &&
		slices.Equal(a.Seen, b.Seen) && half.Same(a.Halves, b.Halves) && chans.Same(a.Chans, b.Chans)
}

// own is a state in memory of its own. (slices.Clone of an empty list would hold on to the room behind it.)
func own(st api.Node) api.Node {
	st.Want = append([]int(nil), st.Want...)
	st.Seen = append([]api.Seen(nil), st.Seen...)
	st.Halves, st.Chans = half.Copy(st.Halves), chans.Copy(st.Chans)
	return st
}
