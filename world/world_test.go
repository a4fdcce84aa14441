package world

import (
	"math"
	"reflect"
	"slices"
	"testing"

	"eddy/api"
	"eddy/node"
	"eddy/wire"
)

func tick(a int) api.Step        { return api.Step{Kind: api.StTick, A: a} }
func link(a, b int) api.Step     { return api.Step{Kind: api.StLink, A: a, B: b} }
func crash(a int) api.Step       { return api.Step{Kind: api.StCrash, A: a} }
func deliver(n int64) api.Step   { return api.Step{Kind: api.StDeliver, N: n} }
func flush() api.Step            { return api.Step{Kind: api.StFlush} }
func round() api.Step            { return api.Step{Kind: api.StRound} }
func severing(a, b int) api.Step { return api.Step{Kind: api.StSever, A: a, B: b} }

func starting(a int, n int64) api.Step { return api.Step{Kind: api.StRestart, A: a, N: n} }

func setting(a int, name string, n int64) api.Step {
	return api.Step{Kind: api.StSet, A: a, Name: name, N: n}
}

func creating(a int, name string, kind int) api.Step {
	return api.Step{Kind: api.StCreate, A: a, Name: name, K: kind, N: 1}
}

// told is what a node tells.
func told(id, kind, peer int, name string, num int64) api.Told {
	return api.Told{Node: id, Event: api.Event{Kind: kind, Peer: peer, Name: name, Num: num}}
}

func held(id, peer int, boot int64) api.Told { return told(id, api.EvHeld, peer, "", boot) }

func ignored(id, from, kind int) api.Told { return told(id, api.EvIgnored, from, "", int64(kind)) }

func learned(id int, name string, epoch int64) api.Told {
	return told(id, api.EvLearned, 0, name, epoch)
}

func dropped(id, peer int, why int64) api.Told { return told(id, api.EvDropped, peer, "", why) }

// steps does steps, each by the words, and wants no error of any; what is told by all is told.
func steps(t *testing.T, w api.World, l ...api.Step) (api.World, []api.Told) {
	t.Helper()
	var events []api.Told
	for _, x := range l {
		got, o := check(t, w, x)
		if o.Err != api.OK {
			t.Fatalf("%+v: %v", x, o.Err)
		}
		w, events = got, append(events, o.Events...)
	}
	return w, events
}

func eventsAre(t *testing.T, what string, got []api.Told, want ...api.Told) {
	t.Helper()
	if !slices.Equal(got, want) {
		t.Errorf("%s: %+v, want %+v", what, got, want)
	}
}

// fresh is a new world.
func fresh(t *testing.T, n int) api.World {
	t.Helper()
	w, err := New(n)
	if err != api.OK {
		t.Fatal(err)
	}
	return w
}

func estimateIs(t *testing.T, w api.World, id int, name string, want int64) {
	t.Helper()
	if x, err := node.Estimate(w.Nodes[id], name); x != want || err != api.OK {
		t.Errorf("the estimate of %d: %d, %v, want %d", id, x, err, want)
	}
}

// pair is the world of the first example.
func pair(t *testing.T) (api.World, []api.Told) {
	t.Helper()
	w, events := steps(t, fresh(t, 2), link(0, 1), link(1, 0), tick(0))
	eventsAre(t, "ahead of the flush", events)
	if p, is := Packet(w, 0); !is || !alike(p, api.Packet{Kind: api.PkHello, From: 0, To: 1, Boot: 1}) || len(w.Mail.List) != 1 {
		t.Fatalf("in flight: %+v", w.Mail)
	}
	return steps(t, w, flush())
}

func TestExample1(t *testing.T) {
	w, events := pair(t)
	eventsAre(t, "the flush", events, held(0, 1, 1), held(1, 0, 1))
	if len(w.Mail.List) != 0 || w.Lost != 0 {
		t.Errorf("behind the flush: %+v", w)
	}
}

// shared is the world of the second example.
func shared(t *testing.T) api.World {
	t.Helper()
	w, _ := pair(t)
	w, events := steps(t, w, creating(0, "m", api.KMean))
	eventsAre(t, "create", events, learned(0, "m", 1))
	w, events = steps(t, w, flush())
	eventsAre(t, "the flush behind it", events, learned(1, "m", 1))
	w, events = steps(t, w, setting(0, "m", 10), setting(1, "m", 0), tick(0))
	eventsAre(t, "ahead of the exchange", events)
	w, events = steps(t, w, flush())
	eventsAre(t, "the exchange", events, told(1, api.EvBalanced, 0, "m", 5))
	return w
}

func TestExample2(t *testing.T) {
	w := shared(t)
	estimateIs(t, w, 0, "m", 5)
	estimateIs(t, w, 1, "m", 5)
}

func TestExample3(t *testing.T) {
	w, events := steps(t, shared(t), crash(0))
	eventsAre(t, "the crash", events)
	refuses(t, "a tick", w, tick(0), api.ErrDown)
	w, o := check(t, w, starting(0, 0))
	if o.Err != api.ErrDead || w.Up[0] || len(o.Events) != 0 {
		t.Errorf("restart without power: %+v, %+v", o, w)
	}
	w, events = steps(t, w, starting(0, -1))
	eventsAre(t, "the restart", events)
	if !w.Up[0] || !alike(w.Nodes[0], node.New(0, 2)) {
		t.Errorf("behind the restart: %+v", w.Nodes[0])
	}
	if _, err := node.Estimate(w.Nodes[0], "m"); err != api.ErrNone {
		t.Errorf("its channel is still there: %v", err)
	}
}

func TestExample4(t *testing.T) {
	w := fresh(t, 2)
	got, events := steps(t, w, deliver(7))
	eventsAre(t, "deliver with nothing in flight", events)
	if !alike(got, w) {
		t.Errorf("deliver with nothing in flight: %+v", got)
	}
	refuses(t, "kind 0", w, api.Step{}, api.ErrStep)
	refuses(t, "a tick with a Name", w, api.Step{Kind: api.StTick, Name: "m"}, api.ErrStep)
	refuses(t, "tick 5", w, tick(5), api.ErrNode)
}

func TestP21_1New(t *testing.T) {
	for n := 1; n <= 16; n++ {
		w, err := New(n)
		want := api.World{}
		for id := range n {
			want.Nodes = append(want.Nodes, api.Node{Id: id, Boot: 1})
			want.Up = append(want.Up, true)
			want.Disks = append(want.Disks, append(bootRecord(1), make([]byte, 32)...))
		}
		if err != api.OK || !alike(w, want) {
			t.Errorf("New(%d): %+v, %v", n, w, err)
		}
	}
	for _, n := range []int{math.MinInt, -1 << 32, -16, -2, -1, 0, 17, 18, 32, 1 << 32, 1<<32 + 1, math.MaxInt} {
		if w, err := New(n); err != api.ErrNumber || !alike(w, api.World{}) {
			t.Errorf("New(%d): %+v, %v", n, w, err)
		}
	}
}

// The bytes of a disk themselves, so that they hang on nothing that is reckoned here.
func TestP21_1NewByItsBytes(t *testing.T) {
	const first = "\x01\x00\x00\x00\x00\x00\x00\x00EDDYBOOT\x8b\x3e\x1c\x63\x01\x00\x00\x00\x00\x00\x00\x00\x00\x00\x00\x00"
	for id, d := range fresh(t, 16).Disks {
		if string(d) != first+string(make([]byte, 32)) {
			t.Errorf("the disk of %d: %x", id, d)
		}
	}
}

// A run is New, and Do of each step; steps that are refused are passed by.
func TestP21_4Run(t *testing.T) {
	d := newDice(5)
	for i := range 60 {
		n := 1 + i%6
		l := d.script(n, d.Intn(60))
		switch i {
		case 0:
			l = nil
		case 1:
			l = []api.Step{}
		case 2:
			l = []api.Step{tick(1)}
		case 3:
			l = []api.Step{{}}
		case 4:
			l = []api.Step{tick(9), {Kind: -1}, crash(0), crash(0), starting(0, 1), starting(0, -1)}
		}
		w, outcomes, err := Run(n, l)
		want := fresh(t, n)
		if len(outcomes) != len(l) || err != api.OK {
			t.Fatalf("%d outcomes of %d steps, %v", len(outcomes), len(l), err)
		}
		for j, x := range l {
			var o api.Outcome
			if want, o = Do(want, x); !alike(o, outcomes[j]) {
				t.Fatalf("step %d, %+v: %+v, want %+v", j, x, outcomes[j], o)
			}
		}
		if !alike(w, want) {
			t.Fatalf("%+v, want %+v", w, want)
		}
	}
}

func TestP21_4RunOfNoWorld(t *testing.T) {
	for _, n := range []int{math.MinInt, -1, 0, 17, 1 << 32, math.MaxInt} {
		for _, l := range [][]api.Step{nil, {}, {tick(0)}, {{}, round()}} {
			if w, o, err := Run(n, l); err != api.ErrNumber || len(o) != 0 || !alike(w, api.World{}) {
				t.Errorf("Run(%d): %+v, %+v, %v", n, w, o, err)
			}
		}
	}
}

// A step that is none, or that is refused, has its outcome; what is behind it is done.
func TestP21_4RunGoesOn(t *testing.T) {
	w, o, err := Run(1, []api.Step{crash(0), {Kind: 99}, tick(0), tick(1), starting(0, 0), starting(0, 1), starting(0, -1), starting(0, -1), tick(0)})
	want := []api.Errno{api.OK, api.ErrStep, api.ErrDown, api.ErrNode, api.ErrDead, api.ErrDead, api.OK, api.ErrUp, api.OK}
	if err != api.OK || len(o) != len(want) {
		t.Fatalf("%+v, %v", o, err)
	}
	for i, x := range o {
		if x.Err != want[i] || len(x.Events) != 0 {
			t.Errorf("step %d: %+v, want %v", i, x, want[i])
		}
	}
	if !alike(w.Nodes, []api.Node{{Id: 0, Boot: 2, Ticks: 1}}) {
		t.Errorf("%+v", w.Nodes)
	}
}

// Worlds that differ in whatever they have are not the same.
func TestP21_5Same(t *testing.T) {
	for _, w := range []api.World{base(), rich(t)} {
		if !Same(w, w) || !Same(w, deep(w)) {
			t.Error("a world is not the same as itself")
		}
		var paths []string
		leaves(reflect.ValueOf(w), "", func(path string, _ reflect.Value) { paths = append(paths, path) })
		for i, path := range paths {
			for _, other := range others(w, i) {
				if Same(w, other) || Same(other, w) {
					t.Errorf("%s differs: the same", path)
				}
				if !Same(other, other) {
					t.Errorf("%s: not the same as itself", path)
				}
			}
		}
	}
}

// deep is a world with all its lists in other memory.
func deep(w api.World) api.World { return another(reflect.ValueOf(w)).Interface().(api.World) }

// another is a value with all its lists in other memory.
func another(v reflect.Value) reflect.Value {
	to := reflect.New(v.Type()).Elem()
	to.Set(v)
	switch v.Kind() {
	case reflect.Slice:
		if v.IsNil() {
			break
		}
		to.Set(reflect.MakeSlice(v.Type(), v.Len(), v.Len()))
		for i := range v.Len() {
			to.Index(i).Set(another(v.Index(i)))
		}
	case reflect.Struct:
		for i := range v.NumField() {
			to.Field(i).Set(another(v.Field(i)))
		}
	}
	return to
}

// others are a world in which the leaf or list at a place of leaves is another one.
func others(w api.World, at int) []api.World {
	var l []api.World
	for way := range 3 {
		other, i := deep(w), 0
		leaves(reflect.ValueOf(&other).Elem(), "", func(_ string, v reflect.Value) {
			if i == at {
				alter(v, way)
			}
			i++
		})
		if !alike(w, other) {
			l = append(l, other)
		}
	}
	return l
}

// alter changes a leaf or a list, in one way or another.
func alter(v reflect.Value, way int) {
	switch v.Kind() {
	case reflect.Slice:
		switch {
		case way == 0:
			v.Set(reflect.Append(v, reflect.Zero(v.Type().Elem())))
		case v.Len() > 0 && way == 1:
			v.Set(v.Slice(0, v.Len()-1))
		case v.Len() > 0:
			v.Set(v.Slice(1, v.Len()))
		}
	case reflect.Bool:
		v.SetBool(!v.Bool())
	case reflect.String:
		v.SetString([]string{v.String() + "x", "", "x" + v.String()}[way])
	case reflect.Uint8:
		v.SetUint(uint64([]byte{byte(v.Uint()) + 1, 0, 0xff}[way]))
	default:
		v.SetInt([]int64{v.Int() + 1, -v.Int() - 1, math.MaxInt64}[way])
	}
}

func TestP21_5SameOfNilAndEmpty(t *testing.T) {
	empty := func(st api.Node) api.Node {
		st.Want, st.Seen, st.Halves, st.Chans = []int{}, []api.Seen{}, []api.Half{}, []api.State{}
		return st
	}
	none := api.World{Nodes: []api.Node{}, Up: []bool{}, Disks: [][]byte{}, Mail: api.Mail{List: []api.Datagram{}, Severed: []api.Link{}}}
	if !Same(api.World{}, none) || !Same(none, api.World{}) {
		t.Error("no nodes: lists that are nil and empty differ")
	}
	a, b := fresh(t, 2), fresh(t, 2)
	b.Nodes[0], b.Nodes[1], b.Mail = empty(b.Nodes[0]), empty(b.Nodes[1]), none.Mail
	if !Same(a, b) || !Same(b, a) {
		t.Error("new worlds: lists that are nil and empty differ")
	}
	c, d := a, b
	c.Disks, d.Disks = [][]byte{nil, {1}}, [][]byte{{}, {1}}
	if !Same(c, d) || !Same(d, c) {
		t.Error("disks that are nil and empty differ")
	}
	if Same(api.World{}, a) || Same(a, api.World{}) || Same(c, a) {
		t.Error("unlike worlds are the same")
	}
}

// Of any worlds, fit or not, Same goes field by field.
func TestP21_5SameByTheWords(t *testing.T) {
	d, same := newDice(6), 0
	for range 2000 {
		w := d.one()
		a, b := deep(w), deep(w)
		if d.often(1, 2) {
			a, b = d.torn(a), d.torn(b)
		}
		if d.often(1, 2) {
			a = d.torn(a)
		}
		if got, want := Same(a, b), alike(a, b); got != want || Same(b, a) != want {
			t.Fatalf("%t, want %t: %+v, %+v", got, want, a, b)
		}
		if alike(a, b) {
			same++
		}
	}
	if same < 400 || same > 1500 {
		t.Errorf("%d of 2000 are the same", same)
	}
}

// rich is a world in which much is in flight: Asks with Items among it.
func rich(t *testing.T) api.World {
	t.Helper()
	w, _ := steps(t, shared(t), creating(1, "e", api.KExt), flush(), setting(1, "e", -4), tick(0), tick(1), tick(1), severing(0, 1), api.Step{Kind: api.StMend, A: 0, B: 1})
	w, _ = steps(t, w, tick(1), tick(0), deliver(0), api.Step{Kind: api.StDouble, N: 1})
	if len(w.Mail.List) != 3 || w.Lost != 3 {
		t.Fatalf("%+v", w)
	}
	return w
}

func TestP21_6Packet(t *testing.T) {
	for _, w := range []api.World{base(), rich(t), fresh(t, 1), crowded(7)} {
		n := len(w.Mail.List)
		for at, d := range w.Mail.List {
			p, is := Packet(w, at)
			if !is || string(wire.Encode(p)) != d.Body || p.From != d.From || p.To != d.To {
				t.Errorf("the packet at %d: %+v, %t", at, p, is)
			}
		}
		for _, at := range []int{math.MinInt, -1 << 32, -n, -2, -1, n, n + 1, 2*n + 1, 1 << 32, math.MaxInt} {
			if at >= 0 && at < n {
				continue
			}
			if p, is := Packet(w, at); is || !alike(p, api.Packet{}) {
				t.Errorf("the packet at %d of %d: %+v, %t", at, n, p, is)
			}
		}
	}
}

func TestP21_6PacketItself(t *testing.T) {
	w := fresh(t, 3)
	m := api.Chan{Name: "m", Epoch: 2, Maker: 1, Alive: true, Kind: api.KMean, Scale: 3}
	l := []api.Packet{
		{Kind: api.PkHello, From: 2, To: 0, Boot: 7, Life: 1},
		{Kind: api.PkAsk, From: 0, To: 1, Boot: 1, Life: 2, Echo: 3, EchoLife: 4, Items: []api.Item{{Chan: m, Reg: api.Reg{Ver: 1, Writer: 1, Flow: -7}, HasRest: true, Rest: 9}}},
		{Kind: api.PkBye, From: 1, To: 2, Boot: 1, Echo: 5, EchoLife: 6},
	}
	put(&w, l...)
	w.Mail.Next, w.Mail.List[2].Number = 90, 80 // places are no numbers
	for at, want := range l {
		if p, is := Packet(w, at); !is || !alike(p, want) {
			t.Errorf("the packet at %d: %+v, %t, want %+v", at, p, is, want)
		}
	}
	if _, is := Packet(w, 3); is {
		t.Error("a packet behind the last")
	}
	if _, is := Packet(w, 80); is {
		t.Error("a packet at its number")
	}
}

// put lets packets be in flight, behind the others.
func put(w *api.World, l ...api.Packet) {
	for _, p := range l {
		w.Mail.Next++
		w.Mail.List = append(w.Mail.List, api.Datagram{Number: w.Mail.Next, From: p.From, To: p.To, Body: string(wire.Encode(p))})
	}
}

// refuses wants an error of a step, beside which nothing has changed.
func refuses(t *testing.T, what string, w api.World, x api.Step, err api.Errno) {
	t.Helper()
	was := deep(w)
	got, o := check(t, w, x)
	if o.Err != err || len(o.Events) != 0 || !alike(got, was) || !alike(w, was) {
		t.Errorf("%s, %+v: %+v, want %v", what, x, o, err)
	}
}
