package world

import (
	"fmt"
	"math"
	"reflect"
	"strings"
	"testing"

	"eddy/api"
)

// roomy is a value all lists of which have room behind them, in which something lies.
func roomy[T any](v T) T { return spacious(reflect.ValueOf(v)).Interface().(T) }

func spacious(v reflect.Value) reflect.Value {
	to := reflect.New(v.Type()).Elem()
	to.Set(v)
	switch v.Kind() {
	case reflect.Slice:
		l := reflect.MakeSlice(v.Type(), 0, v.Len()+3)
		for i := range v.Len() {
			l = reflect.Append(l, spacious(v.Index(i)))
		}
		odd := reflect.New(v.Type().Elem()).Elem()
		litter(odd)
		same := odd
		if v.Len() > 0 {
			same = v.Index(v.Len() - 1)
		}
		to.Set(reflect.Append(l, same, odd).Slice(0, v.Len()))
	case reflect.Struct:
		for i := range v.NumField() {
			to.Field(i).Set(spacious(v.Field(i)))
		}
	}
	return to
}

// litter lets a value be another one than it is wanted to be.
func litter(v reflect.Value) {
	switch v.Kind() {
	case reflect.Slice:
	case reflect.Struct:
		for i := range v.NumField() {
			litter(v.Field(i))
		}
	case reflect.Bool:
		v.SetBool(true)
	case reflect.String:
		v.SetString("m")
	case reflect.Uint8:
		v.SetUint(0xed)
	default:
		v.SetInt(1)
	}
}

// dump is all that a value has, and what lies in the spare room of its lists.
func dump(v reflect.Value, b *strings.Builder) {
	switch v.Kind() {
	case reflect.Slice:
		fmt.Fprintf(b, "[%d ", v.Len())
		for i := range v.Cap() {
			dump(v.Slice(0, v.Cap()).Index(i), b)
		}
		b.WriteString("]")
	case reflect.Struct:
		for i := range v.NumField() {
			dump(v.Field(i), b)
		}
	default:
		fmt.Fprintf(b, "%v ", v)
	}
}

func whole(l ...any) string {
	var b strings.Builder
	for _, v := range l {
		dump(reflect.ValueOf(v), &b)
	}
	return b.String()
}

// room is where a list lies in memory, with its spare room. The list is kept, as else its memory might be given to another one.
type room struct {
	what     string
	from, to uintptr
	kept     reflect.Value
}

// rooms are those of all lists of a value.
func rooms(what string, v any) []room {
	var l []room
	leaves(reflect.ValueOf(v), what, func(path string, v reflect.Value) {
		if v.Kind() == reflect.Slice && v.Cap() > 0 {
			l = append(l, room{path, v.Pointer(), v.Pointer() + uintptr(v.Cap())*v.Type().Elem().Size(), v})
		}
	})
	return l
}

// apart fails where two lists lie in one memory.
func apart(t *testing.T, what string, l []room) {
	t.Helper()
	for i, a := range l {
		for _, b := range l[:i] {
			if a.from < b.to && b.from < a.to {
				t.Fatalf("%s: %s and %s share memory", what, a.what, b.what)
			}
		}
	}
}

// each hands out worlds, and steps that are done there.
func each(t *testing.T, do func(w api.World, x api.Step)) {
	t.Helper()
	for _, w := range []api.World{base(), rich(t), shared(t), fresh(t, 1)} {
		n := len(w.Nodes)
		for kind := api.StLink; kind <= api.StMend; kind++ {
			for a := range n {
				b := (a + 1) % n
				do(w, used(api.Step{Kind: kind, A: a, B: b, Name: "m", K: api.KMean, N: 1}))
				do(w, used(api.Step{Kind: kind, A: b, B: a, Name: "n", K: api.KSquare, N: -1}))
			}
		}
		do(w, api.Step{})
		do(w, tick(99))
	}
	d := newDice(14)
	for range 250 {
		w := d.fit()
		do(w, d.any(len(w.Nodes)))
	}
}

func TestWhatIsHandedInStays(t *testing.T) {
	each(t, func(w api.World, x api.Step) {
		w = roomy(w)
		was := whole(w)
		Do(w, x)
		Fit(w)
		Same(w, base())
		Same(base(), w)
		for at := range len(w.Mail.List) + 2 {
			Packet(w, at)
		}
		if is := whole(w); is != was {
			t.Fatalf("%+v: what was handed in is\n%s\nwas\n%s", x, is, was)
		}
	})
	d := newDice(15)
	for range 50 {
		l := roomy(d.script(3, 40))
		was := whole(l)
		Run(3, l)
		if whole(l) != was {
			t.Fatal("a row of steps is changed")
		}
	}
}

func TestWhatComesOutIsNewMemory(t *testing.T) {
	each(t, func(w api.World, x api.Step) {
		for _, w := range []api.World{w, roomy(w)} {
			one, o := Do(w, x)
			two, p := Do(w, x)
			l := append(rooms("world", w), rooms("one", one)...)
			l = append(append(l, rooms("its events", o)...), rooms("the other one", two)...)
			apart(t, fmt.Sprintf("%+v", x), append(l, rooms("the events of that", p)...))
		}
	})
	for _, w := range []api.World{rich(t), roomy(rich(t))} {
		l := rooms("world", w)
		for range 2 {
			for at := range w.Mail.List {
				p, _ := Packet(w, at)
				l = append(l, rooms(fmt.Sprint("packet ", at), p)...)
			}
		}
		apart(t, "Packet", l)
	}
	d := newDice(16)
	for range 20 {
		l := d.script(3, 40)
		one, o, _ := Run(3, l)
		two, p, _ := Run(3, l)
		all := append(rooms("one", one), rooms("its outcomes", o)...)
		all = append(append(all, rooms("the other one", two)...), rooms("its outcomes", p)...)
		apart(t, "Run", append(all, rooms("steps", l)...))
	}
	a, _ := New(3)
	b, _ := New(3)
	apart(t, "New", append(rooms("one", a), rooms("the other one", b)...))
}

// What lies in spare room plays no part: the answers are those to lists without any.
func TestSpareRoomPlaysNoPart(t *testing.T) {
	each(t, func(w api.World, x api.Step) {
		want, o := Do(w, x)
		got, p := Do(roomy(w), x)
		if !alike(got, want) || !alike(o, p) {
			t.Fatalf("%+v: %+v, want %+v", x, got, want)
		}
		if !Fit(roomy(w)) || !Same(w, roomy(w)) || !Same(roomy(w), w) {
			t.Fatalf("what lies behind lists plays a part: %+v", w)
		}
		if _, is := Packet(roomy(w), len(w.Mail.List)); is {
			t.Fatal("a packet in the room behind a list")
		}
	})
	l := newDice(17).script(4, 80)
	want, o, _ := Run(4, l)
	if got, p, _ := Run(4, roomy(l)); !alike(got, want) || !alike(o, p) {
		t.Error("what lies behind a row of steps plays a part")
	}
}

// One answer twice is the same: nothing is kept from call to call, and no order of a map is seen.
func TestAnswersAreTheSameAgain(t *testing.T) {
	each(t, func(w api.World, x api.Step) {
		want, o := Do(w, x)
		for range 3 {
			if got, p := Do(w, x); !alike(got, want) || !alike(o, p) {
				t.Fatalf("%+v: %+v, and %+v", x, got, want)
			}
		}
	})
}

// Every call ends and none panics, at all arguments; what is not fit is left as it was, too.
func TestNothingPanics(t *testing.T) {
	d := newDice(18)
	for range 300 {
		w := d.one()
		if d.often(1, 3) {
			w = roomy(w)
		}
		for range 1 + d.Intn(6) {
			w = d.torn(w)
		}
		was := whole(w)
		for kind := api.StLink; kind <= api.StMend; kind++ {
			Do(w, d.step(kind, max(len(w.Nodes), 1)))
			Do(w, used(api.Step{Kind: kind, A: d.Intn(4), B: d.Intn(4), Name: "m", N: wild(d)}))
		}
		Do(w, d.none(3))
		Fit(w)
		Same(w, base())
		Packet(w, d.Intn(4)-1)
		Packet(w, int(wild(d)))
		if whole(w) != was {
			t.Fatalf("an unfit one is changed: %+v", w)
		}
	}
	for _, c := range unfit() {
		w := changed(c.do)
		for kind := api.StLink; kind <= api.StMend && len(w.Mail.List) <= fullBag; kind++ {
			for id := -1; id < 6; id++ {
				Do(w, used(api.Step{Kind: kind, A: id, B: 1, Name: "m", K: 1, N: 1}))
			}
			Do(w, used(api.Step{Kind: kind, A: 2, N: -1}))
		}
		for at := -1; at < 4; at++ {
			Packet(w, at)
		}
	}
	for kind := -1; kind <= 17; kind++ {
		for _, w := range []api.World{{}, {Up: []bool{true, true}}, {Disks: make([][]byte, 2)}, {Nodes: make([]api.Node, 2)}, {Nodes: make([]api.Node, 2), Up: []bool{true}, Disks: make([][]byte, 5), Lost: math.MaxInt64}, {Up: []bool{true}, Mail: api.Mail{Next: 9, List: []api.Datagram{flight(1, 0, 1), flight(2, 1, 0)}}, Lost: math.MinInt64}} {
			Do(w, api.Step{Kind: kind})
			Do(w, api.Step{Kind: kind, A: 1})
			Do(w, api.Step{Kind: kind, B: 1})
			Do(w, api.Step{Kind: kind, A: math.MaxInt, B: math.MinInt})
			Do(w, api.Step{Kind: kind, N: math.MaxInt64})
		}
		Step(api.Step{Kind: kind, A: math.MinInt, N: math.MinInt64})
		Run(2, []api.Step{{Kind: kind}, {Kind: kind, A: 1, B: 0, Name: "\xff", N: math.MinInt64}})
	}
}
