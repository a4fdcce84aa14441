package calm

import (
	"cmp"
	"reflect"
	"slices"
	"testing"

	"eddy/api"
	"eddy/world"
)

func tick(a int) api.Step      { return api.Step{Kind: api.StTick, A: a} }
func link(a, b int) api.Step   { return api.Step{Kind: api.StLink, A: a, B: b} }
func crash(a int) api.Step     { return api.Step{Kind: api.StCrash, A: a} }
func starting(a int) api.Step  { return api.Step{Kind: api.StRestart, A: a, N: -1} }
func deliver(n int64) api.Step { return api.Step{Kind: api.StDeliver, N: n} }
func flush() api.Step          { return api.Step{Kind: api.StFlush} }
func round() api.Step          { return api.Step{Kind: api.StRound} }

func setting(a int, name string, n int64) api.Step {
	return api.Step{Kind: api.StSet, A: a, Name: name, N: n}
}

func creating(a int, name string, kind int) api.Step {
	return api.Step{Kind: api.StCreate, A: a, Name: name, K: kind, N: 1}
}

// bootOf is the boot number of a node in a world made by hand.
func bootOf(id int) int64 { return int64(20 + 3*id) }

// mineOf is a node's life towards another one there: each of them another number.
func mineOf(a, b int) int64 { return int64(100 + a + 16*b) }

// plain is a world of nodes that are up, and have nothing.
func plain(n int) api.World {
	w, _ := world.New(n)
	for id := range n {
		w.Nodes[id].Boot = bootOf(id)
	}
	return w
}

// down lets a node be down.
func down(w *api.World, id int) { w.Nodes[id], w.Up[id] = api.Node{Id: id}, false }

// put puts something into a rising list.
func put[T any](l []T, x T, order func(a, b T) int) []T {
	at, _ := slices.BinarySearchFunc(l, x, order)
	return slices.Insert(l, at, x)
}

// meet lets a node want another one, and have seen it as it is.
func meet(w *api.World, a, b int) {
	st := &w.Nodes[a]
	st.Want = append(st.Want, b)
	st.Seen = put(st.Seen, api.Seen{Peer: b, Boot: bootOf(b), Life: mineOf(b, a), Mine: mineOf(a, b)}, func(k, l api.Seen) int { return cmp.Compare(k.Peer, l.Peer) })
}

// hold lets a node hold a half-edge to another one, as that is.
func hold(w *api.World, a, b int) {
	meet(w, a, b)
	st := &w.Nodes[a]
	st.Halves = put(st.Halves, api.Half{Peer: b, Boot: bootOf(b), Life: mineOf(b, a)}, func(k, l api.Half) int { return cmp.Compare(k.Peer, l.Peer) })
}

// join lets two nodes hold an edge.
func join(w *api.World, a, b int) {
	hold(w, a, b)
	hold(w, b, a)
}

// at is a node's half-edge to another one.
func at(w *api.World, a, b int) *api.Half {
	l := w.Nodes[a].Halves
	return &l[slices.IndexFunc(l, func(h api.Half) bool { return h.Peer == b })]
}

// seen is what a node has seen of another one.
func seen(w *api.World, a, b int) *api.Seen {
	l := w.Nodes[a].Seen
	return &l[slices.IndexFunc(l, func(s api.Seen) bool { return s.Peer == b })]
}

// have lets a node have a channel.
func have(w *api.World, a int, s api.State) {
	w.Nodes[a].Chans = put(w.Nodes[a].Chans, s, func(k, l api.State) int { return cmp.Compare(k.Chan.Name, l.Chan.Name) })
}

// of is an instance of a kind.
func of(name string, kind int) api.Chan {
	return api.Chan{Name: name, Epoch: 3, Maker: 1, Alive: true, Kind: kind, Scale: 1}
}

// all lets nodes have a channel, each with an input.
func all(w *api.World, c api.Chan, inputs ...int64) {
	for a, x := range inputs {
		have(w, a, api.State{Chan: c, Has: true, Input: x})
	}
}

// record is a node's record of a channel.
func record(w *api.World, a int, name string) *api.Chan {
	l := w.Nodes[a].Chans
	return &l[slices.IndexFunc(l, func(s api.State) bool { return s.Chan.Name == name })].Chan
}

// lose takes a channel from a node, and its registers.
func lose(w *api.World, a int, name string) {
	st := &w.Nodes[a]
	st.Chans = slices.DeleteFunc(st.Chans, func(s api.State) bool { return s.Chan.Name == name })
	bare(w, a, name)
}

// bare takes the registers of a channel from all half-edges of a node.
func bare(w *api.World, a int, name string) {
	for i := range w.Nodes[a].Halves {
		h := &w.Nodes[a].Halves[i]
		h.Lines = slices.DeleteFunc(h.Lines, func(l api.Line) bool { return l.Name == name })
	}
}

// write lets the register at one end of an edge be another one.
func write(w *api.World, a, b int, name string, r api.Reg) {
	h := at(w, a, b)
	h.Lines = slices.DeleteFunc(h.Lines, func(l api.Line) bool { return l.Name == name })
	if r != (api.Reg{}) {
		h.Lines = put(h.Lines, api.Line{Name: name, Reg: r}, func(k, l api.Line) int { return cmp.Compare(k.Name, l.Name) })
	}
}

// flow lets the registers at both ends of an edge be another one.
func flow(w *api.World, a, b int, name string, x int64) {
	r := api.Reg{Ver: 4, Writer: a, Flow: x}
	write(w, a, b, name, r)
	write(w, b, a, name, r)
}

// deep is a world with all its lists in other memory.
func deep(w api.World) api.World { return another(reflect.ValueOf(w)).Interface().(api.World) }

// another is a value with all its lists in other memory.
func another(v reflect.Value) reflect.Value {
	to := reflect.New(v.Type()).Elem()
	to.Set(v)
	switch v.Kind() {
	case reflect.Slice:
		if v.IsNil() {
			break
		}
		to.Set(reflect.MakeSlice(v.Type(), v.Len(), v.Len()))
		for i := range v.Len() {
			to.Index(i).Set(another(v.Index(i)))
		}
	case reflect.Struct:
		for i := range v.NumField() {
			to.Field(i).Set(another(v.Field(i)))
		}
	}
	return to
}

// changed is a world in which something is another way. It is still fit.
func changed(t *testing.T, w api.World, what string, do func(w *api.World)) api.World {
	t.Helper()
	w = deep(w)
	do(&w)
	if !world.Fit(w) {
		t.Fatalf("%s: a world that is not fit: %+v", what, w)
	}
	return w
}

// run does steps from the beginning on.
func run(t *testing.T, n int, l ...api.Step) api.World {
	t.Helper()
	w, outcomes, err := world.Run(n, l)
	for i, o := range outcomes {
		if o.Err != api.OK {
			t.Fatalf("%+v: %v", l[i], o.Err)
		}
	}
	if err != api.OK {
		t.Fatal(err)
	}
	return w
}

// enough says of which sorts there were too few.
func enough(t *testing.T, sorts map[string]int, least int, wanted ...string) {
	t.Helper()
	for _, s := range wanted {
		if sorts[s] < least {
			t.Errorf("%d of %q", sorts[s], s)
		}
	}
}
