package miss

import (
	"eddy/api"
	"eddy/half"
)

// silent is what all but turns tell.
const silent = 0

// record is a half-edge to which things happen, one behind the other.
type record struct{ api.Half }

// hold is a record of a half-edge, in memory of its own.
func hold(h api.Half) *record { return &record{half.Copy([]api.Half{h})[0]} }

// deeds are what can happen to a record, in the order of their numbers; each tells what a turn tells.
func (r *record) deeds() []func() int {
	return []func() int{r.turn, r.asked, r.heard, r.answered}
}

func (r *record) turn() int {
	if r.Pending {
		r.Misses++
		if r.Misses >= api.MissLimit {
			return r.drop()
		}
	}
	r.Pending = true
	return api.TkAsk
}

func (r *record) drop() int {
	r.Half = api.Half{}
	return api.TkDrop
}

func (r *record) asked() int {
	r.Pending = true
	return silent
}

func (r *record) heard() int {
	r.Misses = 0
	return silent
}

func (r *record) answered() int {
	r.Misses, r.Pending = 0, false
	return silent
}
