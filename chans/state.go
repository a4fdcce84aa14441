package chans

import (
	"cmp"
	"slices"

	"eddy/api"
	"eddy/dir"
	"eddy/ext"
	"eddy/num"
)

// Fit tells whether states of channels are a node's.
func Fit(id int, l []api.State) bool {
	if id < 0 || id >= api.MaxNodes || !dir.Fits(Records(l)) {
		return false
	}
	for _, s := range l {
		if !fits(s) {
			return false
		}
	}
	return true
}

// fits tells whether a state says of its channel what may be said under that record.
func fits(s api.State) bool {
	switch {
	case !s.Chan.Alive:
		return s == begun(s.Chan)
	case !s.Has && s.Input != 0, !num.Fits(s.Input):
		return false
	case s.Chan.Kind == api.KExt:
		return ext.Fit(s.Min) && ext.Fit(s.Max)
	}
	none := api.Ext{}
	return s.Min == none && s.Max == none
}

// begun is what is known of a channel at its beginning: its record alone.
func begun(c api.Chan) api.State { return api.State{Chan: c} }

// place is where the channel that is alive under a name stands; below 0: there is none.
func place(l []api.State, name string) int {
	return slices.IndexFunc(l, func(s api.State) bool { return s.Chan.Name == name && s.Chan.Alive })
}

// anew is states of which that of a record's name begins anew with it, in its place among the others.
func anew(l []api.State, c api.Chan) []api.State {
	at, have := slices.BinarySearchFunc(l, c.Name, func(s api.State, name string) int { return cmp.Compare(s.Chan.Name, name) })
	behind := l[at:]
	if have {
		behind = behind[1:]
	}
	return slices.Concat(l[:at], []api.State{begun(c)}, behind)
}
