package wire

import "eddy/api"

// from tells whether x is from lo to hi.
func from(lo, x, hi int64) bool { return lo <= x && x <= hi }

// node tells whether x is a node's number.
func node(x int) bool { return 0 <= x && x < api.MaxNodes }

// inRange tells whether x is in the range of flows, rests and extreme values.
func inRange(x int64) bool { return from(-api.MaxFlow, x, api.MaxFlow) }

// incarnation tells whether a boot number and a life are some.
func incarnation(boot, life int64) bool {
	return from(1, boot, api.MaxBoot) && from(0, life, api.MaxLife)
}

// Fit tells whether a packet is one.
func Fit(p api.Packet) bool {
	if p.Kind < api.PkHello || p.Kind > api.PkBye {
		return false
	}
	return node(p.From) && node(p.To) && p.From != p.To && incarnation(p.Boot, p.Life) && echo(p) && items(p)
}

// echo tells whether a packet names the receiver's incarnation, if it is to.
func echo(p api.Packet) bool {
	if p.Kind == api.PkHello {
		return p.Echo == 0 && p.EchoLife == 0
	}
	return incarnation(p.Echo, p.EchoLife)
}

// items tells whether a packet may have the Items that it has.
func items(p api.Packet) bool {
	if p.Kind != api.PkAsk && p.Kind != api.PkAnswer {
		return len(p.Items) == 0
	}
	if len(p.Items) > api.MaxChans {
		return false
	}
	last := "" // ahead of all names
	for _, x := range p.Items {
		if x.Chan.Name <= last || !Item(x) {
			return false
		}
		last = x.Chan.Name
	}
	return true
}

// Name tells whether a text is a channel's name.
func Name(s string) bool {
	if len(s) < 1 || len(s) > api.MaxName {
		return false
	}
	for i := range len(s) {
		if !letter(s[i]) {
			return false
		}
	}
	return true
}

// letter tells whether a byte may stand in a name.
func letter(c byte) bool {
	return 'a' <= c && c <= 'z' || '0' <= c && c <= '9' || c == '_'
}

// Item tells whether an item is one. What has no place in it is zero, if it is the same as one that has nothing but what has a place.
func Item(x api.Item) bool {
	if !record(x.Chan) {
		return false
	}
	switch {
	case !x.Chan.Alive:
		return x == api.Item{Chan: x.Chan}
	case x.Chan.Kind == api.KExt:
		return x == api.Item{Chan: x.Chan, Min: x.Min, Max: x.Max} && extreme(x.Min) && extreme(x.Max)
	}
	return x == api.Item{Chan: x.Chan, Reg: x.Reg, HasRest: x.HasRest, Rest: x.Rest} && register(x.Reg) && rest(x)
}

// record tells whether a channel's record is one.
func record(c api.Chan) bool {
	most := api.MaxScale
	if c.Kind == api.KExt {
		most = 1
	}
	return Name(c.Name) && from(1, c.Epoch, api.MaxEpoch) && node(c.Maker) && api.KMean <= c.Kind && c.Kind <= api.KExt && from(1, c.Scale, most)
}

// register tells whether a register is one, or the zero one.
func register(r api.Reg) bool {
	return r == api.Reg{} || from(1, r.Ver, api.MaxVer) && node(r.Writer) && inRange(r.Flow)
}

// rest tells whether an item's rest is one, or there is none.
func rest(x api.Item) bool {
	return inRange(x.Rest) && (x.HasRest || x.Rest == 0)
}

// extreme tells whether an extreme value is one, or there is none.
func extreme(x api.Ext) bool {
	return x == api.Ext{} || x.Has && inRange(x.Value) && node(x.Origin) && from(0, x.Age, api.MaxAge-1)
}
