package view

import (
	"fmt"
	"math"
	"reflect"
	"strings"
	"testing"

	"eddy/api"
)

// roomy is a value all lists of which have room behind them, in which something lies.
func roomy[T any](v T) T { return spacious(reflect.ValueOf(v)).Interface().(T) }

func spacious(v reflect.Value) reflect.Value {
	to := reflect.New(v.Type()).Elem()
	to.Set(v)
	switch v.Kind() {
	case reflect.Slice:
		l := reflect.MakeSlice(v.Type(), 0, v.Len()+3)
		for i := range v.Len() {
			l = reflect.Append(l, spacious(v.Index(i)))
		}
		odd := reflect.New(v.Type().Elem()).Elem()
		litter(odd)
		last := odd
		if v.Len() > 0 {
			last = v.Index(v.Len() - 1)
		}
		to.Set(reflect.Append(l, last, odd).Slice(0, v.Len()))
	case reflect.Struct:
		for i := range v.NumField() {
			to.Field(i).Set(spacious(v.Field(i)))
		}
	}
	return to
}

// litter lets a value be another one than it is wanted to be.
func litter(v reflect.Value) {
	switch v.Kind() {
	case reflect.Slice:
	case reflect.Struct:
		for i := range v.NumField() {
			litter(v.Field(i))
		}
	case reflect.Bool:
		v.SetBool(true)
	case reflect.String:
		v.SetString("m")
	case reflect.Uint8:
		v.SetUint(0xed)
	default:
		v.SetInt(1)
	}
}

// dump is all that a value has, and what lies in the spare room of its lists.
func dump(v reflect.Value, b *strings.Builder) {
	switch v.Kind() {
	case reflect.Slice:
		fmt.Fprintf(b, "[%d ", v.Len())
		for i := range v.Cap() {
			dump(v.Slice(0, v.Cap()).Index(i), b)
		}
		b.WriteString("]")
	case reflect.Struct:
		for i := range v.NumField() {
			dump(v.Field(i), b)
		}
	default:
		fmt.Fprintf(b, "%v ", v)
	}
}

func whole(l ...any) string {
	var b strings.Builder
	for _, v := range l {
		dump(reflect.ValueOf(v), &b)
	}
	return b.String()
}

// room is where a list lies in memory, with its spare room. The list is kept, as else its memory might be given to another one.
type room struct {
	what     string
	from, to uintptr
	kept     reflect.Value
}

// rooms are those of all lists of a value.
func rooms(what string, v any) []room {
	var l []room
	leaves(reflect.ValueOf(v), what, func(path string, v reflect.Value) {
		if v.Kind() == reflect.Slice && v.Cap() > 0 {
			l = append(l, room{path, v.Pointer(), v.Pointer() + uintptr(v.Cap())*v.Type().Elem().Size(), v})
		}
	})
	return l
}

// apartIn fails where two lists lie in one memory.
func apartIn(t *testing.T, l []room) {
	t.Helper()
	for i, a := range l {
		for _, b := range l[:i] {
			if a.from < b.to && b.from < a.to {
				t.Fatalf("%s and %s share memory", a.what, b.what)
			}
		}
	}
}

// answers are those of all functions, with their names.
func answers(w api.World, set []int, a, b int, name string) map[string]any {
	c, has := Instance(w, a, name)
	x, y, err := Sums(w, set, name)
	low, high, e := Spread(w, name)
	total, also := Squares(w, name)
	return map[string]any{
		"Held": Held(w, a, b), "Instance": ended{c, has, 0}, "Agreed": Agreed(w, a, b, name), "Edges": Edges(w), "Open": Open(w, name), "Seats": Seats(w, name),
		"Everywhere": Everywhere(w, name), "Closed": Closed(w, set, name), "Sums": ended{x, y, err}, "Groups": Groups(w), "Spread": ended{low, high, e}, "Squares": ended{total, nil, also},
	}
}

// each hands out worlds, and what may be asked of them.
func each(t *testing.T, do func(w api.World, set []int, a, b int, name string)) {
	t.Helper()
	d := newDice(20)
	for range 400 {
		w := d.one()
		do(w, d.set(w), pick(d, numbers(len(w.Nodes))), pick(d, numbers(len(w.Nodes))), pick(d, texts()))
	}
	for _, w := range []api.World{sharing(api.KMean), several(), ring(), plain(1), run(t, 2, shared()...)} {
		for a := range w.Nodes {
			for b := range w.Nodes {
				do(w, []int{a, b}, a, b, "m")
			}
		}
		do(w, nil, 0, 0, "m")
	}
}

func TestWhatIsHandedInStays(t *testing.T) {
	each(t, func(w api.World, set []int, a, b int, name string) {
		w, set = roomy(w), roomy(set)
		was := whole(w, set)
		answers(w, set, a, b, name)
		if now := whole(w, set); now != was {
			t.Fatalf("what was handed in is\n%s\nwas\n%s", now, was)
		}
	})
}

func TestWhatComesOutIsNewMemory(t *testing.T) {
	each(t, func(w api.World, set []int, a, b int, name string) {
		for _, w := range []api.World{w, roomy(w)} {
			l := append(rooms("world", w), rooms("set", set)...)
			for time := range 2 {
				for call, x := range answers(w, set, a, b, name) {
					switch call {
					case "Edges", "Open", "Seats", "Groups":
						l = append(l, rooms(fmt.Sprint(call, " ", time), x)...)
					}
				}
			}
			apartIn(t, l)
		}
	})
}

// What lies in spare room plays no part: the answers are those to lists without any. One answer twice is the same.
func TestSpareRoomPlaysNoPart(t *testing.T) {
	each(t, func(w api.World, set []int, a, b int, name string) {
		want := answers(w, set, a, b, name)
		for call, x := range answers(roomy(w), roomy(set), a, b, name) {
			is(t, w, call, x, want[call])
		}
		for call, x := range answers(w, set, a, b, name) {
			is(t, w, call+" once more", x, want[call])
		}
	})
}

// Lists that are nil and those that are empty are the same.
func TestEmptyLists(t *testing.T) {
	w := plain(3)
	for a := range w.Nodes {
		st := &w.Nodes[a]
		st.Want, st.Seen, st.Halves, st.Chans = []int{}, []api.Seen{}, []api.Half{}, []api.State{}
	}
	for _, a := range []int{-1, 0, 2, 3} {
		want := answers(plain(3), nil, a, 1, "m")
		for call, x := range answers(w, []int{}, a, 1, "m") {
			is(t, w, call, x, want[call])
		}
	}
}

// Every call ends and none panics, at all arguments; what is not fit is left as it was, too.
func TestNothingPanics(t *testing.T) {
	d := newDice(21)
	for range 1500 {
		w := d.one()
		for range 1 + d.Intn(6) {
			w = d.torn(w)
		}
		set := []int{d.Intn(4), d.Intn(4) - 1, d.Intn(20)}
		if len(w.Nodes) < 17 && len(w.Up) >= len(w.Nodes) && d.often(1, 2) {
			set = d.Perm(len(w.Nodes) + d.Intn(2))
		}
		was := whole(w, set)
		for range 4 {
			answers(w, set[:d.Intn(len(set)+1)], pick(d, numbers(len(w.Nodes))), d.Intn(4), pick(d, texts()))
			answers(w, set, d.Intn(4), d.Intn(4), "m")
		}
		if whole(w, set) != was {
			t.Fatalf("an unfit one is changed: %+v", w)
		}
	}
	far := api.Half{Peer: math.MaxInt, Boot: 1}
	odd := api.Node{Halves: []api.Half{far, {Peer: -1}, {Peer: 1}, {Peer: 0}, {Peer: 1}}, Seen: []api.Seen{{Peer: 1}, {Peer: 1}}, Chans: []api.State{{Chan: of("m", 1)}, {Chan: of("m", 4)}, {Chan: of("", 9)}}}
	for _, w := range []api.World{{}, {Up: []bool{true, true}}, {Nodes: make([]api.Node, 2)}, {Nodes: make([]api.Node, 40), Up: []bool{true, false, true}},
		{Nodes: []api.Node{odd, odd, odd}, Up: []bool{true, true}}, {Nodes: []api.Node{odd, odd}, Up: []bool{true, true, true, true}}} {
		for a := -2; a < 5; a++ {
			for b := -2; b < 5; b++ {
				answers(w, []int{a, b, a}, a, b, "m")
				answers(w, []int{b}, a, b, "")
			}
		}
	}
}
