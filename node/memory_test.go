package node

import (
	"fmt"
	"math"
	"reflect"
	"slices"
	"strings"
	"testing"

	"eddy/api"
)

// roomyList is the same list with room behind it, in which something lies.
func roomyList[T any](l []T, behind ...T) []T {
	return append(slices.Clone(l), behind...)[:len(l)]
}

// roomy is the same state, all its lists with room behind them.
func roomy(st api.Node) api.Node {
	ext := of(-9, 9, 9)
	oddLine := line("m", 9, 9, 9)
	st.Want = roomyList(st.Want, 6, 6, -1)
	st.Seen = roomyList(st.Seen, api.Seen{Peer: 6, Boot: 9, Life: 9, Mine: 9}, api.Seen{Peer: 9, Mine: math.MinInt64})
	st.Halves = roomyList(st.Halves, api.Half{Peer: 6, Boot: 9, Lines: []api.Line{oddLine}}, api.Half{Peer: 9, Misses: -7})
	for i := range st.Halves {
		st.Halves[i].Lines = roomyList(st.Halves[i].Lines, oddLine, line("!", -1, -1, math.MinInt64))
	}
	st.Chans = roomyList(st.Chans, with(on("n", 9, 9, api.KMean, 9), 9), api.State{Chan: on("z", 1, 1, api.KExt, 1), Min: ext, Max: ext}, api.State{Chan: api.Chan{Name: "!"}})
	return st
}

func roomyPacket(p api.Packet) api.Packet {
	p.Items = roomyList(p.Items, api.Item{Chan: on("zzz", 9, 9, api.KMean, 9), HasRest: true, Rest: 9}, api.Item{Chan: api.Chan{Name: "!"}})
	return p
}

// dump is all that a value has, and what lies in the spare room of its lists.
func dump(v reflect.Value, b *strings.Builder) {
	switch v.Kind() {
	case reflect.Slice:
		fmt.Fprintf(b, "[%d ", v.Len())
		for i := range v.Cap() {
			dump(v.Slice(0, v.Cap()).Index(i), b)
		}
		b.WriteString("]")
	case reflect.Struct:
		for i := range v.NumField() {
			dump(v.Field(i), b)
		}
	default:
		fmt.Fprintf(b, "%v ", v)
	}
}

func whole(l ...any) string {
	var b strings.Builder
	for _, v := range l {
		dump(reflect.ValueOf(v), &b)
	}
	return b.String()
}

// room is where a list lies in memory, with its spare room. The list is kept, as else its memory might be given to another one.
type room struct {
	what     string
	from, to uintptr
	kept     reflect.Value
}

// rooms are those of all lists of a value.
func rooms(what string, v reflect.Value) []room {
	var l []room
	switch v.Kind() {
	case reflect.Slice:
		if v.Cap() > 0 && v.Type().Elem().Size() > 0 {
			l = append(l, room{what, v.Pointer(), v.Pointer() + uintptr(v.Cap())*v.Type().Elem().Size(), v})
		}
		for i := range v.Len() {
			l = append(l, rooms(fmt.Sprint(what, " ", i), v.Index(i))...)
		}
	case reflect.Struct:
		for i := range v.NumField() {
			l = append(l, rooms(what+"."+v.Type().Field(i).Name, v.Field(i))...)
		}
	}
	return l
}

// apart fails where two lists lie in one memory.
func apart(t *testing.T, what string, l []room) {
	t.Helper()
	for i, a := range l {
		for _, b := range l[:i] {
			if a.from < b.to && b.from < a.to {
				t.Errorf("%s: %s and %s share memory", what, a.what, b.what)
			}
		}
	}
}

// acts are calls at base that each go another way.
func acts() []act {
	news := api.Item{Chan: on("k", 3, 5, api.KMean, 1), HasRest: true, Rest: 50}
	anew := fromFive(api.PkAsk, news, mAsk(1, 2, 7, 40))
	anew.Boot = 4
	stale, late := fromFive(api.PkAnswer), fromFive(api.PkAsk)
	stale.Life, late.EchoLife = 0, 1
	other := fromFive(api.PkAsk, mAsk(1, 2, 7, 40))
	other.To = 3
	receive := func(p api.Packet) act { return act{call: "Receive", p: p} }
	return []act{
		{call: "Tick"},
		receive(other), receive(stale), receive(late), receive(fromFive(api.PkHello)), receive(fromFive(api.PkWelcome)), receive(fromFive(api.PkBye)),
		receive(fromFive(api.PkAsk)), receive(fromFive(api.PkAnswer)), receive(fromZero(api.PkWelcome)), receive(fromZero(api.PkAsk, news)), receive(fromZero(api.PkBye)),
		receive(fromFive(api.PkAsk, mAsk(1, 2, 7, 40))), receive(fromFive(api.PkAnswer, mAnswer(2, 5, 7))), receive(anew), receive(fromFive(api.PkAnswer, news)),
		{call: "Link", v: 3}, {call: "Link", v: 16}, {call: "Link", v: 5},
		{call: "Unlink", v: 5}, {call: "Unlink", v: 9}, {call: "Unlink", v: 3},
		{call: "Create", name: "k", kind: api.KMean, x: 1}, {call: "Create", name: "g", kind: api.KMean, x: 1}, {call: "Create", name: "m", kind: api.KMean, x: 1},
		{call: "Delete", name: "m"}, {call: "Delete", name: "g"},
		{call: "Set", name: "m", x: 3}, {call: "Set", name: "e", x: 3}, {call: "Set", name: "c", x: 3}, {call: "Set", name: "x", x: 3},
	}
}

// each hands out calls, and states at which they are done: base, and drawn ones.
func each(do func(st api.Node, a act)) {
	for _, a := range acts() {
		do(base(), a)
		do(as(base(), func(st *api.Node) { st.Turn, st.Halves[1].Misses = 1, 2 }), a) // a tick drops
		do(edgeless(), a)
		do(New(2, 7), a)
	}
	d := newDice(208)
	for range 1500 {
		st := d.fit()
		do(st, d.act(st))
	}
}

func TestWhatIsHandedInStays(t *testing.T) {
	each(func(st api.Node, a act) {
		st, a.p = roomy(st), roomyPacket(a.p)
		was := whole(st, a.p)
		a.do(st)
		if is := whole(st, a.p); is != was {
			t.Errorf("%+v: what was handed in is\n%s\nwas\n%s", a, is, was)
		}
		Fit(st)
		Same(st, base())
		Same(base(), st)
		for _, name := range append(twelve(), "e", "g", "q") {
			Estimate(st, name)
			Rest(st, name, 5)
			Least(st, name)
			Greatest(st, name)
		}
		Items(st, 5)
		Items(st, 9)
		if is := whole(st, a.p); is != was {
			t.Errorf("questions: what was handed in is\n%s\nwas\n%s", is, was)
		}
	})
}

func TestWhatComesOutIsNewMemory(t *testing.T) {
	each(func(st api.Node, a act) {
		for _, st := range []api.Node{st, roomy(st)} {
			one, two := a.do(st), a.do(st)
			l := append(rooms("state", reflect.ValueOf(st)), rooms("packet", reflect.ValueOf(a.p))...)
			for i, c := range []came{one, two} {
				what := fmt.Sprint("answer ", i)
				l = append(l, rooms(what+", state", reflect.ValueOf(c.st))...)
				l = append(l, rooms(what+", packets", reflect.ValueOf(c.packets))...)
				l = append(l, rooms(what+", events", reflect.ValueOf(c.events))...)
			}
			l = append(l, rooms("Items", reflect.ValueOf(Items(st, 5)))...)
			apart(t, fmt.Sprintf("%+v", a), l)
		}
	})
}

// What lies in spare room plays no part: the answers are those to lists without any.
func TestSpareRoomPlaysNoPart(t *testing.T) {
	each(func(st api.Node, a act) {
		want := a.do(st)
		b := a
		b.p = roomyPacket(a.p)
		if got := b.do(roomy(st)); !got.same(want) {
			t.Errorf("%+v: %+v, want %+v", a, got, want)
		}
		for peer := range 16 {
			if got, want := Items(roomy(st), peer), Items(st, peer); !slices.Equal(got, want) {
				t.Errorf("Items: %+v, want %+v", got, want)
			}
		}
	})
	if !Fit(roomy(base())) || !Same(roomy(base()), base()) || !Same(base(), roomy(base())) {
		t.Error("what lies in spare room plays a part")
	}
	if _, err := Estimate(roomy(base()), "n"); err != api.ErrNone {
		t.Error("a channel in the room behind a list is found")
	}
	if _, err := Least(roomy(base()), "z"); err != api.ErrNone {
		t.Error("a channel in the room behind a list is found")
	}
}

// One answer twice is the same: nothing is kept from call to call, and no order of a map is seen.
func TestAnswersAreTheSameAgain(t *testing.T) {
	each(func(st api.Node, a act) {
		want := a.do(st)
		for range 3 {
			if got := a.do(st); !got.same(want) {
				t.Errorf("%+v: %+v, and %+v", a, got, want)
			}
		}
	})
}

// Every call ends and none panics, at all arguments; what is not fit is left as it was, too.
func TestNothingPanics(t *testing.T) {
	d := newDice(209)
	for range 6000 {
		st := d.unfitNode()
		was := whole(st)
		a := d.act(d.fit())
		if len(st.Want) > 0 && d.often(2, 3) {
			a.v, a.p.From = pick(d, st.Want), pick(d, st.Want)
			a.p.To, a.p.Echo, a.p.EchoLife = st.Id, st.Boot, say(st).seen[a.p.From].mine
		}
		for _, call := range []string{"Tick", "Receive", "Link", "Unlink", "Create", "Delete", "Set"} {
			a.call = call
			a.do(st)
		}
		a.p = d.unfitPacket(d.unfitPacket(a.p))
		Receive(st, a.p)
		for _, name := range texts() {
			Estimate(st, name)
			Rest(st, name, int(wild(d)))
			Least(st, name)
			Greatest(st, name)
			Create(st, name, int(wild(d)), wild(d))
			Delete(st, name)
			Set(st, name, wild(d))
		}
		Items(st, int(wild(d)))
		New(int(wild(d)), wild(d))
		Fit(st)
		Same(st, d.fit())
		if whole(st) != was {
			t.Fatalf("%+v: an unfit one is changed", st)
		}
	}
	for _, st := range []api.Node{{}, {Turn: -1, Want: []int{5}}, {Turn: math.MaxInt, Want: []int{5}}, {Turn: math.MinInt, Want: []int{1, 2}}, {Id: math.MinInt, Ticks: math.MaxInt64, Want: []int{0}}} {
		for _, a := range acts() {
			a.do(st)
		}
	}
}
