package calm

import (
	"fmt"
	"math"
	"math/rand"
	"reflect"
	"slices"

	"eddy/api"
	"eddy/world"
)

// dice draws worlds, sets and steps, by a fixed seed.
type dice struct{ *rand.Rand }

func newDice(seed int64) dice { return dice{rand.New(rand.NewSource(seed))} }

func pick[T any](d dice, l []T) T { return l[d.Intn(len(l))] }

// often is true n times of m.
func (d dice) often(n, m int) bool { return d.Intn(m) < n }

// flowing is a number in the range of flows, often at an end or near nought.
func (d dice) flowing() int64 {
	return pick(d, []int64{0, 1, -1, 2, 7, -3, d.Int63n(2001) - 1000, most, -most, most - 1, 1 << 30, -1 << 30, d.Int63n(2*most+1) - most})
}

// built is a fit world made by hand, with whatever an observer may see: edges of one end alone, names of incarnations that
// are over, instances and registers that differ.
func (d dice) built() api.World {
	n := pick(d, []int{1, 2, 2, 3, 3, 4, 4, 5, 6, 7, 16})
	w := plain(n)
	for id := range n {
		d.channels(&w, id)
	}
	for b := range n {
		for a := range b {
			if len(w.Nodes[a].Want) < api.MaxDegree && len(w.Nodes[b].Want) < api.MaxDegree && d.often(2, 3) {
				d.edge(&w, a, b)
			}
		}
	}
	for id := range n {
		if d.often(1, 12) {
			down(&w, id)
		}
	}
	return w
}

// channels lets a node have channels, mostly the instances that the others have as well.
func (d dice) channels(w *api.World, id int) {
	if d.often(1, 12) {
		return
	}
	for i, name := range names3() {
		c := api.Chan{Name: name, Epoch: 3, Maker: 1, Alive: true, Kind: []int{api.KExt, api.KMean, api.KSquare}[i], Scale: 1}
		switch d.Intn(30) {
		case 0:
			c.Epoch++
		case 1:
			c.Maker++
		case 2:
			c.Alive = false
		case 3:
			c.Kind, c.Scale = 1+d.Intn(4), 1
		case 4:
			continue
		case 5:
			c.Scale = 7
			if c.Kind == api.KExt {
				c.Scale = 1
			}
		}
		s := api.State{Chan: c}
		if c.Alive && d.often(5, 6) {
			s.Has, s.Input = true, d.flowing()
			if d.often(1, 2) {
				s.Input = d.Int63n(200) - 100
			}
		}
		have(w, id, s)
	}
}

// edge lets two nodes hold an edge, or one of them alone, or name incarnations that are over.
func (d dice) edge(w *api.World, a, b int) {
	switch d.Intn(14) {
	case 0:
		hold(w, a, b)
		meet(w, b, a)
	case 1:
		hold(w, b, a)
		meet(w, a, b)
	case 2:
		meet(w, a, b)
	case 3:
		join(w, a, b)
		at(w, a, b).Boot -= d.Int63n(3)
		at(w, b, a).Life -= d.Int63n(3)
	case 4:
		join(w, a, b)
		at(w, b, a).Boot -= d.Int63n(3)
		seen(w, b, a).Mine += d.Int63n(3)
	case 5:
		join(w, a, b)
		at(w, a, b).Life -= d.Int63n(3)
		seen(w, a, b).Life += d.Int63n(3)
		at(w, b, a).Pending = true
	default:
		join(w, a, b)
	}
	for _, name := range names3() {
		r := d.register(a, b)
		tell(w, a, b, name, r)
		if d.often(1, 15) {
			r = d.register(a, b)
		}
		if d.often(1, 15) && r != (api.Reg{}) {
			r.Flow = max(-most, r.Flow-1)
		}
		tell(w, b, a, name, r)
	}
}

func (d dice) register(a, b int) api.Reg {
	if d.often(1, 4) {
		return api.Reg{}
	}
	r := api.Reg{Ver: 1 + d.Int63n(3), Writer: pick(d, []int{a, b}), Flow: d.Int63n(100) - 50}
	if d.often(1, 8) {
		r.Flow = d.flowing()
	}
	return r
}

// tell writes a register, where the node holds the half-edge and has the channel.
func tell(w *api.World, a, b int, name string, r api.Reg) {
	h := slices.IndexFunc(w.Nodes[a].Halves, func(h api.Half) bool { return h.Peer == b })
	s := slices.IndexFunc(w.Nodes[a].Chans, func(s api.State) bool {
		return s.Chan.Name == name && s.Chan.Alive && s.Chan.Kind != api.KExt
	})
	if h >= 0 && s >= 0 {
		write(w, a, b, name, r)
	}
}

// names3 are the names of channels in drawn worlds.
func names3() []string { return []string{"a", "m", "n"} }

// texts are names, and what is none.
func texts() []string {
	return []string{"a", "m", "n", "b", "", "M", "mm", "m ", "\xff", "abcdefghijklmnop", "abcdefghijklmnopq"}
}

// step is a step of a run among n nodes.
func (d dice) step(n int) api.Step {
	a, b, name := d.Intn(n), d.Intn(n), pick(d, names3())
	if d.often(1, 9) {
		return pick(d, []api.Step{
			{Kind: api.StDrop, N: d.Int63n(99)}, {Kind: api.StDouble, N: d.Int63n(99)}, crash(a), starting(a), starting(b),
			{Kind: api.StSever, A: a, B: b}, {Kind: api.StMend, A: a, B: b}, {Kind: api.StMend, A: b, B: a},
		})
	}
	if d.often(1, 6) {
		return pick(d, []api.Step{
			link(a, b), link(b, a), link(a, b), {Kind: api.StUnlink, A: a, B: b},
			{Kind: api.StCreate, A: a, Name: name, K: 1 + d.Intn(4), N: 1}, {Kind: api.StCreate, A: b, Name: name, K: api.KMean, N: 1}, {Kind: api.StDelete, A: a, Name: name},
			setting(a, name, d.Int63n(2001)-1000), setting(b, name, d.Int63n(99)), setting(a, name, pick(d, []int64{0, 1, most, -most})),
		})
	}
	return pick(d, []api.Step{tick(a), tick(b), tick(a), deliver(0), deliver(0), deliver(d.Int63n(99)), flush(), round()})
}

// script is so many steps among n nodes, behind some by which they come to edges and channels.
func (d dice) script(n, length int) []api.Step {
	var l []api.Step
	for a := range n {
		for b := range a {
			if n <= 4 || d.often(3, n) {
				l = append(l, link(a, b), link(b, a))
			}
		}
	}
	l = append(l, round(), round(), round())
	for i, name := range names3() {
		l = append(l, api.Step{Kind: api.StCreate, A: d.Intn(n), Name: name, K: []int{api.KExt, api.KMean, api.KSquare}[i], N: 1})
	}
	l = append(l, flush())
	for range length {
		l = append(l, d.step(n))
	}
	return l
}

// ran is the world of a short run.
func (d dice) ran() api.World {
	n := 1 + d.Intn(6)
	w, _, _ := world.Run(n, d.script(n, d.Intn(60)))
	return w
}

// one is a fit world of either sort.
func (d dice) one() api.World {
	if d.often(1, 3) {
		return d.ran()
	}
	return d.built()
}

// heard lets everything in flight arrive, and nobody be severed any more.
func heard(w api.World) api.World {
	for _, l := range w.Mail.Severed {
		w, _ = world.Do(w, api.Step{Kind: api.StMend, A: l.A, B: l.B})
	}
	w, _ = world.Do(w, flush())
	return w
}

// rested is a world that a run has come to, behind which some rounds went by: mostly one that is ready for a calm run.
func (d dice) rested() api.World {
	w := d.ran()
	if d.often(1, 2) {
		for id, up := range w.Up {
			if !up {
				w, _ = world.Do(w, starting(id))
				w, _ = world.Do(w, link(id, d.Intn(len(w.Nodes))))
			}
		}
	}
	w = heard(w)
	for range pick(d, []int{0, 1, 3, 30, 30, 30}) {
		w, _ = world.Do(w, round())
	}
	return d.fed(w)
}

// stamped lets registers at one end of an edge be newer ones, of the same flow: it is open, and no estimate is another one.
func (d dice) stamped(w api.World) api.World {
	w = deep(w)
	for _, st := range w.Nodes {
		for _, h := range st.Halves {
			for i := range h.Lines {
				if d.often(1, 6) {
					h.Lines[i].Reg.Ver++
				}
			}
		}
	}
	return w
}

// fed lets nodes have other inputs.
func (d dice) fed(w api.World) api.World {
	for range d.Intn(2 * len(w.Nodes)) {
		w, _ = world.Do(w, setting(d.Intn(len(w.Nodes)), pick(d, names3()), d.input()))
	}
	return w
}

// input is a number that a node is told: seldom so great that estimates leave their range.
func (d dice) input() int64 {
	return pick(d, []int64{0, 1, -1, d.Int63n(9), d.Int63n(2001) - 1000, d.Int63n(2001) - 1000, d.Int63n(1<<20) - 1<<19, pick(d, []int64{most, -most, most - 1, 46340})})
}

// order is numbers, most of them those of nodes.
func (d dice) order(n int) []int {
	l := make([]int, pick(d, []int{0, 1, 1, 2, 3, 5, 8}))
	for i := range l {
		l[i] = d.Intn(n)
		if d.often(1, 9) {
			l[i] = pick(d, odd(n))
		}
	}
	return l
}

// odd are numbers that are those of no nodes.
func odd(n int) []int { return []int{-1, n, n + 1, 16, -n, math.MinInt, math.MaxInt, 1 << 32} }

// beats are any, calm ones and others.
func (d dice) beats() []api.Beat {
	l := make([]api.Beat, d.Intn(5))
	for i := range l {
		l[i].Node = d.Intn(4)
		if d.often(1, 12) {
			l[i].Err = api.Errno(d.Intn(60))
		}
		for range d.Intn(4) {
			kind := pick(d, []int{api.EvHeld, api.EvBalanced, api.EvIgnored, api.EvBalanced, 0, -1, 7, 99})
			if d.often(1, 12) {
				kind = d.Intn(8)
			}
			l[i].Events = append(l[i].Events, api.Told{Node: d.Intn(4), Event: api.Event{Kind: kind, Num: d.Int63n(9), Peer: d.Intn(9)}})
		}
	}
	return l
}

// leaves hands out all that stands in a value that is no list and no struct, and the lists.
func leaves(v reflect.Value, path string, do func(path string, v reflect.Value)) {
	switch v.Kind() {
	case reflect.Slice:
		do(path, v)
		for i := range v.Len() {
			leaves(v.Index(i), fmt.Sprint(path, "[", i, "]"), do)
		}
	case reflect.Struct:
		for i := range v.NumField() {
			leaves(v.Field(i), path+"."+v.Type().Field(i).Name, do)
		}
	default:
		do(path, v)
	}
}

// tear changes one leaf or list.
func (d dice) tear(v reflect.Value) {
	switch v.Kind() {
	case reflect.Slice:
		d.tearList(v)
	case reflect.Bool:
		v.SetBool(!v.Bool())
	case reflect.String:
		v.SetString(pick(d, append(texts(), v.String()+"x")))
	case reflect.Uint8:
		v.SetUint(uint64(d.Intn(256)))
	default:
		v.SetInt(pick(d, []int64{math.MinInt64, math.MaxInt64, -1 << 32, 1 << 32, -1, 0, 1, 2, 3, 15, 16, 17, most, most + 1, -most - 1, v.Int() - 1, v.Int() + 1}))
	}
}

// tearList lets a list be shorter, or have something twice, or what is zero.
func (d dice) tearList(v reflect.Value) {
	n := v.Len()
	l := reflect.MakeSlice(v.Type(), 0, n+1)
	at := d.Intn(n + 1)
	l = reflect.AppendSlice(l, v.Slice(0, at))
	switch {
	case at == n || d.often(1, 3):
		l = reflect.Append(l, reflect.Zero(v.Type().Elem()))
	case d.often(1, 2):
		l = reflect.Append(l, v.Index(at), v.Index(d.Intn(n)))
	}
	if at < n {
		l = reflect.AppendSlice(l, v.Slice(at+1, n))
	}
	v.Set(l)
}

// torn is a world in which something is changed, so that it is seldom fit.
func (d dice) torn(w api.World) api.World {
	w = deep(w)
	var all []reflect.Value
	leaves(reflect.ValueOf(&w).Elem(), "", func(_ string, v reflect.Value) {
		if v.Kind() != reflect.Uint8 {
			all = append(all, v)
		}
	})
	d.tear(pick(d, all))
	return w
}
