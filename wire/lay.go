package wire

import (
	"iter"

	"eddy/api"
)

// How many fields a packet has of its own, and each of its Items.
const (
	headFields = 8
	itemFields = 19
)

// slot is where a field of a packet lies: the one of its places that is there.
type slot struct {
	kind  int
	small *int
	num   *int64
	text  *string
	is    *bool
}

func small(x *int) slot    { return slot{kind: api.FdNumber, small: x} }
func number(x *int64) slot { return slot{kind: api.FdNumber, num: x} }
func signed(x *int64) slot { return slot{kind: api.FdSigned, num: x} }
func text(x *string) slot  { return slot{kind: api.FdText, text: x} }
func truth(x *bool) slot   { return slot{kind: api.FdFlag, is: x} }

// field is what lies there.
func (s slot) field() api.Field {
	f := api.Field{Kind: s.kind}
	switch {
	case s.small != nil:
		f.Num = int64(*s.small)
	case s.num != nil:
		f.Num = *s.num
	case s.text != nil:
		f.Text = *s.text
	case s.is != nil:
		f.Is = *s.is
	}
	return f
}

// put lays a field there.
func (s slot) put(f api.Field) {
	switch {
	case s.small != nil:
		*s.small = int(f.Num)
	case s.num != nil:
		*s.num = f.Num
	case s.text != nil:
		*s.text = f.Text
	case s.is != nil:
		*s.is = f.Is
	}
}

// head is where a packet's own fields lie, the last of which says how many Items there are.
func head(p *api.Packet, count *int) [headFields]slot {
	return [...]slot{small(&p.Kind), small(&p.From), small(&p.To), number(&p.Boot), number(&p.Life), number(&p.Echo), number(&p.EchoLife), small(count)}
}

// parts is where an Item's fields lie.
func parts(x *api.Item) [itemFields]slot {
	c, r, least, most := &x.Chan, &x.Reg, &x.Min, &x.Max
	return [...]slot{
		text(&c.Name), number(&c.Epoch), small(&c.Maker), truth(&c.Alive), small(&c.Kind), number(&c.Scale),
		number(&r.Ver), small(&r.Writer), signed(&r.Flow),
		truth(&x.HasRest), signed(&x.Rest),
		truth(&least.Has), signed(&least.Value), small(&least.Origin), number(&least.Age),
		truth(&most.Has), signed(&most.Value), small(&most.Origin), number(&most.Age),
	}
}

// fields hands out where a packet's fields lie, in the order in which their bytes do. A packet that is being read has no Items yet: as many as were put into the count come to be one by one, each when it is come to, so that a count without Items behind it takes no room.
func fields(p *api.Packet) iter.Seq[slot] {
	return func(yield func(slot) bool) {
		count := len(p.Items)
		for _, s := range head(p, &count) {
			if !yield(s) {
				return
			}
		}
	packet:
		for i := range count {
			if i == len(p.Items) {
				p.Items = append(p.Items, api.Item{})
			}
			for _, s := range parts(&p.Items[i]) {
				if !yield(s) {
					break packet
				}
			}
		}
	}
}
