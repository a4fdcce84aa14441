package dir

import "eddy/api"

// stamp is what tells which of two records is newer; nothing else of them is looked at for that.
type stamp struct {
	epoch int64
	maker int
}

// newer tells whether a stamp is newer than another one.
func (s stamp) newer(than stamp) bool {
	if s.epoch != than.epoch {
		return s.epoch > than.epoch
	}
	return s.maker < than.maker
}

// next is the stamp with which a maker takes the place of what bears this one.
func (s stamp) next(maker int) stamp { return stamp{s.epoch + 1, maker} }

// record is what is said of a name, under its stamp.
type record struct {
	stamp
	name  string
	alive bool
	kind  int
	scale int64
}

func of(c api.Chan) record {
	return record{stamp{c.Epoch, c.Maker}, c.Name, c.Alive, c.Kind, c.Scale}
}

// plain is a record as the faces give it out.
func (r record) plain() api.Chan {
	return api.Chan{Name: r.name, Epoch: r.epoch, Maker: r.maker, Alive: r.alive, Kind: r.kind, Scale: r.scale}
}
