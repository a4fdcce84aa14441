package calm

import (
	"fmt"
	"math"
	"reflect"
	"strings"
	"testing"

	"eddy/api"
)

// roomy is a value all lists of which have room behind them, in which something lies.
func roomy[T any](v T) T { return spacious(reflect.ValueOf(v)).Interface().(T) }

func spacious(v reflect.Value) reflect.Value {
	to := reflect.New(v.Type()).Elem()
	to.Set(v)
	switch v.Kind() {
	case reflect.Slice:
		l := reflect.MakeSlice(v.Type(), 0, v.Len()+3)
		for i := range v.Len() {
			l = reflect.Append(l, spacious(v.Index(i)))
		}
		odd := reflect.New(v.Type().Elem()).Elem()
		litter(odd)
		last := odd
		if v.Len() > 0 {
			last = v.Index(v.Len() - 1)
		}
		to.Set(reflect.Append(l, last, odd).Slice(0, v.Len()))
	case reflect.Struct:
		for i := range v.NumField() {
			to.Field(i).Set(spacious(v.Field(i)))
		}
	}
	return to
}

// litter lets a value be another one than it is wanted to be.
func litter(v reflect.Value) {
	switch v.Kind() {
	case reflect.Slice:
	case reflect.Struct:
		for i := range v.NumField() {
			litter(v.Field(i))
		}
	case reflect.Bool:
		v.SetBool(true)
	case reflect.String:
		v.SetString("m")
	case reflect.Uint8:
		v.SetUint(0xed)
	default:
		v.SetInt(1)
	}
}

// dump is all that a value has, and what lies in the spare room of its lists.
func dump(v reflect.Value, b *strings.Builder) {
	switch v.Kind() {
	case reflect.Slice:
		fmt.Fprintf(b, "[%d ", v.Len())
		for i := range v.Cap() {
			dump(v.Slice(0, v.Cap()).Index(i), b)
		}
		b.WriteString("]")
	case reflect.Struct:
		for i := range v.NumField() {
			dump(v.Field(i), b)
		}
	default:
		fmt.Fprintf(b, "%v ", v)
	}
}

func whole(l ...any) string {
	var b strings.Builder
	for _, v := range l {
		dump(reflect.ValueOf(v), &b)
	}
	return b.String()
}

// room is where a list lies in memory, with its spare room. The list is kept, as else its memory might be given to another one.
type room struct {
	what     string
	from, to uintptr
	kept     reflect.Value
}

// rooms are those of all lists of a value.
func rooms(what string, v any) []room {
	var l []room
	leaves(reflect.ValueOf(v), what, func(path string, v reflect.Value) {
		if v.Kind() == reflect.Slice && v.Cap() > 0 {
			l = append(l, room{path, v.Pointer(), v.Pointer() + uintptr(v.Cap())*v.Type().Elem().Size(), v})
		}
	})
	return l
}

// apartIn fails where two lists lie in one memory.
func apartIn(t *testing.T, l []room) {
	t.Helper()
	for i, a := range l {
		for _, b := range l[:i] {
			if a.from < b.to && b.from < a.to {
				t.Fatalf("%s and %s share memory", a.what, b.what)
			}
		}
	}
}

// called is all that a call takes.
type called struct {
	w     api.World
	order []int
	beats []api.Beat
	n     int
	name  string
}

// answers are those of all functions, with their names.
func answers(c called) map[string]any {
	x, beats := Serial(c.w, c.order)
	y, events := Rounds(c.w, c.n)
	z, n, so := Settle(c.w, c.name, c.n)
	return map[string]any{
		"Quiet": Quiet(c.w), "Ready": Ready(c.w), "Calm": Calm(c.beats), "Settled": Settled(c.w, c.name), "Serial's world": x, "Serial": beats,
		"Rounds' world": y, "Rounds": events, "Settle's world": z, "Settle": ended{n, so, nil},
	}
}

// each hands out worlds, and what may be asked of them.
func each(do func(c called)) {
	d := newDice(20)
	for i := range 200 {
		w := d.one()
		if i%3 == 0 {
			w = d.rested()
		}
		do(called{w, d.order(len(w.Nodes)), d.beats(), d.Intn(5) - 1, pick(d, texts())})
	}
	for _, w := range []api.World{named(), fixed(), two(5, 0), plain(1), plain(16)} {
		for _, order := range [][]int{nil, {0}, {-1}, {0, 99, 0}} {
			do(called{w, order, nil, len(order), "m"})
			do(called{w, order, []api.Beat{row(api.EvHeld), row()}, -1, "n"})
		}
	}
}

func TestWhatIsHandedInStays(t *testing.T) {
	each(func(c called) {
		c = roomy2(c)
		was := whole(c.w, c.order, c.beats)
		answers(c)
		if now := whole(c.w, c.order, c.beats); now != was {
			t.Fatalf("what was handed in is\n%s\nwas\n%s", now, was)
		}
	})
}

// roomy2 is all that a call takes, in lists with room behind them.
func roomy2(c called) called {
	c.w, c.order, c.beats = roomy(c.w), roomy(c.order), roomy(c.beats)
	return c
}

func TestWhatComesOutIsNewMemory(t *testing.T) {
	each(func(c called) {
		for _, c := range []called{c, roomy2(c)} {
			l := append(rooms("world", c.w), rooms("order", c.order)...)
			for time := range 2 {
				for call, x := range answers(c) {
					if _, is := x.(ended); !is {
						l = append(l, rooms(fmt.Sprint(call, " ", time), x)...)
					}
				}
			}
			apartIn(t, l)
		}
	})
}

// What lies in spare room plays no part: the answers are those to lists without any. One answer twice is the same.
func TestSpareRoomPlaysNoPart(t *testing.T) {
	each(func(c called) {
		want := answers(c)
		for call, x := range answers(roomy2(c)) {
			is(t, c.w, call, x, want[call])
		}
		for call, x := range answers(c) {
			is(t, c.w, call+" once more", x, want[call])
		}
	})
}

// Lists that are nil and those that are empty are the same.
func TestEmptyLists(t *testing.T) {
	w := plain(3)
	for a := range w.Nodes {
		st := &w.Nodes[a]
		st.Want, st.Seen, st.Halves, st.Chans = []int{}, []api.Seen{}, []api.Half{}, []api.State{}
	}
	w.Mail.List, w.Mail.Severed = []api.Datagram{}, []api.Link{}
	for _, n := range []int{-1, 0, 2} {
		want := answers(called{plain(3), nil, nil, n, "m"})
		for call, x := range answers(called{w, []int{}, []api.Beat{}, n, "m"}) {
			is(t, w, call, x, want[call])
		}
	}
	is(t, w, "Calm", Calm([]api.Beat{{Events: []api.Told{}}}), true)
}

// Every call ends and none panics, at all arguments; what is not fit is left as it was, too.
func TestNothingPanics(t *testing.T) {
	d := newDice(22)
	for range 500 {
		w := d.one()
		for range 1 + d.Intn(6) {
			w = d.torn(w)
		}
		c := called{w, append(d.order(3), pick(d, odd(3))), d.beats(), d.Intn(4), pick(d, texts())}
		was := whole(c.w, c.order, c.beats)
		answers(c)
		c.name = "m"
		answers(c)
		if whole(c.w, c.order, c.beats) != was {
			t.Fatalf("an unfit one is changed: %+v", w)
		}
	}
	far := api.Half{Peer: math.MaxInt, Boot: 1}
	strange := api.Node{Want: []int{9, -1}, Turn: 7, Halves: []api.Half{far, {Peer: -1}, {Peer: 1}, {Peer: 0}, {Peer: 1}}, Seen: []api.Seen{{Peer: 1}, {Peer: 1}}, Chans: []api.State{{Chan: of("m", 1)}, {Chan: of("m", 4)}, {Chan: of("", 9)}}}
	for _, w := range []api.World{{}, {Up: []bool{true, true}}, {Nodes: make([]api.Node, 2)}, {Nodes: make([]api.Node, 40), Up: []bool{true, false, true}},
		{Nodes: []api.Node{strange, strange, strange}, Up: []bool{true, true}}, {Nodes: []api.Node{strange, strange}, Up: []bool{true, true, true, true}},
		{Nodes: []api.Node{strange, strange}, Up: []bool{true, true}, Disks: make([][]byte, 2), Mail: api.Mail{List: make([]api.Datagram, 2)}}} {
		for a := -2; a < 5; a++ {
			answers(called{w, []int{a, 0, a}, []api.Beat{{}}, 2 * a, "m"})
			answers(called{w, []int{a}, nil, a, ""})
		}
	}
}
