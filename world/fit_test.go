package world

import (
	"math"
	"slices"
	"strings"
	"testing"

	"eddy/api"
	"eddy/wire"
)

// hello is a Hello's bytes.
func hello(from, to int) string {
	return string(wire.Encode(api.Packet{Kind: api.PkHello, From: from, To: to, Boot: 1}))
}

// flight is a Hello in flight.
func flight(number int64, from, to int) api.Datagram {
	return api.Datagram{Number: number, From: from, To: to, Body: hello(from, to)}
}

// base is a fit world with something of all: 0 and 1 hold an edge, 2 is down, 3 wants 2; two packets are in flight.
func base() api.World {
	w, l, err := Run(4, []api.Step{
		{Kind: api.StLink, A: 0, B: 1}, {Kind: api.StLink, A: 1, B: 0}, {Kind: api.StTick}, {Kind: api.StFlush},
		{Kind: api.StCreate, Name: "m", K: api.KMean, N: 1}, {Kind: api.StCreate, A: 1, Name: "e", K: api.KExt, N: 1}, {Kind: api.StFlush},
		{Kind: api.StSet, Name: "m", N: 10}, {Kind: api.StSet, A: 1, Name: "e", N: 7}, {Kind: api.StTick}, {Kind: api.StFlush},
		{Kind: api.StSever, A: 2, B: 1}, {Kind: api.StSever, A: 1, B: 3}, {Kind: api.StCrash, A: 2},
		{Kind: api.StLink, A: 3, B: 2}, {Kind: api.StTick, A: 3}, {Kind: api.StTick},
		{Kind: api.StLink, A: 1, B: 2}, {Kind: api.StTick, A: 1}, {Kind: api.StTick, A: 1}, {Kind: api.StDrop, N: 2},
	})
	if err != api.OK || len(w.Mail.List) != 2 || w.Lost != 1 {
		panic("the base is another one")
	}
	for _, o := range l {
		if o.Err != api.OK {
			panic(o.Err.Error())
		}
	}
	return w
}

// changed is base with something changed.
func changed(do func(w *api.World)) api.World {
	w := base()
	do(&w)
	return w
}

type change struct {
	what string
	do   func(w *api.World)
}

func TestP21_2FitOnes(t *testing.T) {
	for _, c := range []change{
		{"nothing", func(w *api.World) {}},
		{"nothing is lost", func(w *api.World) { w.Lost = 0 }},
		{"as much as may be is lost", func(w *api.World) { w.Lost = lastLost }},
		{"no packet was ever put", func(w *api.World) { w.Mail = api.Mail{} }},
		{"the last number was given", func(w *api.World) { w.Mail.Next = lastMail }},
		{"a packet has the last number", func(w *api.World) { w.Mail.Next, w.Mail.List[1].Number = lastMail, lastMail }},
		{"nobody is severed", func(w *api.World) { w.Mail.Severed = nil }},
		{"all are severed, what is in flight as well", func(w *api.World) {
			w.Mail.Severed = []api.Link{{A: 0, B: 1}, {A: 0, B: 2}, {A: 0, B: 3}, {A: 1, B: 2}, {A: 1, B: 3}, {A: 2, B: 3}}
		}},
		{"a packet that nobody has sent", func(w *api.World) { w.Mail.List[0] = flight(w.Mail.List[0].Number, 3, 0) }},
		{"one packet twice", func(w *api.World) {
			w.Mail.List[1].Body, w.Mail.List[1].From, w.Mail.List[1].To = w.Mail.List[0].Body, w.Mail.List[0].From, w.Mail.List[0].To
		}},
		{"a disk of zeros", func(w *api.World) { w.Disks[0] = make([]byte, 64) }},
		{"a disk of any bytes", func(w *api.World) { w.Disks[2] = slices.Repeat([]byte{0xed}, 64) }},
		{"a node has seen one beyond the world", func(w *api.World) { w.Nodes[0].Seen = append(w.Nodes[0].Seen, api.Seen{Peer: 15, Boot: 1}) }},
		{"a maker beyond the world", func(w *api.World) { w.Nodes[0].Chans[0].Chan.Maker = 15 }},
		{"a node is up that is as new", func(w *api.World) { w.Nodes[2], w.Up[2] = api.Node{Id: 2, Boot: lastBoot}, true }},
		{"all are down", func(w *api.World) {
			for id := range w.Nodes {
				w.Nodes[id], w.Up[id] = api.Node{Id: id}, false
			}
		}},
		{"empty lists", func(w *api.World) {
			w.Nodes[2] = api.Node{Id: 2, Want: []int{}, Seen: []api.Seen{}, Halves: []api.Half{}, Chans: []api.State{}}
			w.Mail = api.Mail{List: []api.Datagram{}, Severed: []api.Link{}}
		}},
	} {
		if w := changed(c.do); !Fit(w) || !sayFit(w) {
			t.Errorf("%s: not fit", c.what)
		}
	}
	for n := 1; n <= 16; n++ {
		if w, err := New(n); err != api.OK || !Fit(w) || !sayFit(w) {
			t.Errorf("a new world of %d: not fit", n)
		}
	}
}

// unfit are changes of base by which one demand is not kept, and no other one.
func unfit() []change {
	more := func(w *api.World, id int) {
		w.Nodes, w.Up, w.Disks = append(w.Nodes, api.Node{Id: id}), append(w.Up, false), append(w.Disks, make([]byte, 64))
	}
	body := func(f func(b []byte) []byte) func(w *api.World) {
		return func(w *api.World) { w.Mail.List[1].Body = string(f([]byte(w.Mail.List[1].Body))) }
	}
	return []change{
		{"no nodes", func(w *api.World) { *w = api.World{} }},
		{"no nodes, empty lists", func(w *api.World) { *w = api.World{Nodes: []api.Node{}, Up: []bool{}, Disks: [][]byte{}} }},
		{"17 nodes", func(w *api.World) {
			for id := 4; id < 17; id++ {
				more(w, id)
			}
		}},
		{"a node less", func(w *api.World) { w.Nodes, w.Mail = w.Nodes[:3], api.Mail{} }},
		{"a node more", func(w *api.World) { w.Nodes = append(w.Nodes, api.Node{Id: 4}) }},
		{"no Up", func(w *api.World) { w.Up = nil }},
		{"Up is shorter", func(w *api.World) { w.Up = w.Up[:3] }},
		{"Up is longer", func(w *api.World) { w.Up = append(w.Up, false) }},
		{"no Disks", func(w *api.World) { w.Disks = nil }},
		{"Disks are fewer", func(w *api.World) { w.Disks = w.Disks[:3] }},
		{"Disks are more", func(w *api.World) { w.Disks = append(w.Disks, make([]byte, 64)) }},

		{"a node that is up has no boot number", func(w *api.World) { w.Nodes[3].Boot = 0 }},
		{"a node that is up has ticks below 0", func(w *api.World) { w.Nodes[3].Ticks = -1 }},
		{"a node that is up has a turn beyond", func(w *api.World) { w.Nodes[3].Turn = 1 }},
		{"a half-edge of a node that is up is not fit", func(w *api.World) { w.Nodes[0].Halves[0].Boot = 2 }},
		{"a channel of a node that is up is not fit", func(w *api.World) { w.Nodes[0].Chans[0].Chan.Epoch = 0 }},
		{"the first node has another Id", func(w *api.World) { w.Nodes[0].Id = 2 }},
		{"the last node has another Id", func(w *api.World) { w.Nodes[3].Id = 1 }},
		{"a node has an Id beyond the world", func(w *api.World) { w.Nodes[3].Id = 4 }},
		{"two nodes have changed places", func(w *api.World) { w.Nodes[0], w.Nodes[1] = w.Nodes[1], w.Nodes[0] }},
		{"a node that is up is the zero one", func(w *api.World) { w.Nodes[3] = api.Node{Id: 3} }},
		{"a node wants one beyond the world", func(w *api.World) { w.Nodes[3].Want = append(w.Nodes[3].Want, 4) }},
		{"a node wants the last one that there can be", func(w *api.World) { w.Nodes[3].Want = []int{15} }},
		{"the first node wants one beyond the world", func(w *api.World) { w.Nodes[0].Want = append(w.Nodes[0].Want, 5) }},

		{"a node that is down has a boot number", func(w *api.World) { w.Nodes[2].Boot = 1 }},
		{"a node that is down has ticks", func(w *api.World) { w.Nodes[2].Ticks = 1 }},
		{"a node that is down wants one", func(w *api.World) { w.Nodes[2].Want = []int{1} }},
		{"a node that is down has a turn", func(w *api.World) { w.Nodes[2].Turn = 1 }},
		{"a node that is down has seen one", func(w *api.World) { w.Nodes[2].Seen = []api.Seen{{Peer: 1, Boot: 1}} }},
		{"a node that is down has a half-edge", func(w *api.World) { w.Nodes[2].Halves = []api.Half{{Peer: 1, Boot: 1}} }},
		{"a node that is down has a channel", func(w *api.World) { w.Nodes[2].Chans = slices.Clone(w.Nodes[0].Chans) }},
		{"a node that is down has another Id", func(w *api.World) { w.Nodes[2].Id = 0 }},
		{"a node that is fit is down", func(w *api.World) { w.Up[3] = false }},

		{"a disk of no bytes", func(w *api.World) { w.Disks[2] = nil }},
		{"a disk of a byte less", func(w *api.World) { w.Disks[0] = w.Disks[0][:63] }},
		{"a disk of a byte more", func(w *api.World) { w.Disks[3] = append(w.Disks[3], 0) }},
		{"a disk of three sectors", func(w *api.World) { w.Disks[1] = make([]byte, 48) }},
		{"a disk of five sectors", func(w *api.World) { w.Disks[1] = make([]byte, 80) }},

		{"Next is below 0", func(w *api.World) { w.Mail.Next, w.Mail.List = -1, nil }},
		{"Next is beyond the last", func(w *api.World) { w.Mail.Next = lastMail + 1 }},
		{"Next is below a packet's number", func(w *api.World) { w.Mail.Next = w.Mail.List[1].Number - 1 }},
		{"a packet has the number 0", func(w *api.World) { w.Mail.List[0].Number = 0 }},
		{"a number twice", func(w *api.World) { w.Mail.List[0].Number = w.Mail.List[1].Number }},
		{"numbers do not rise", func(w *api.World) { slices.Reverse(w.Mail.List) }},
		{"too many packets", func(w *api.World) { *w = crowded(fullBag + 1) }},

		{"a body of no bytes", body(func(b []byte) []byte { return nil })},
		{"a body that is cut off", body(func(b []byte) []byte { return b[:len(b)-1] })},
		{"a body with a byte behind", body(func(b []byte) []byte { return append(b, 0) })},
		{"a body with its sum turned", body(func(b []byte) []byte { b[len(b)-1] ^= 1; return b })},
		{"a body of two packets", body(func(b []byte) []byte { return append(b, b...) })},
		{"another From", func(w *api.World) { w.Mail.List[1].From = 1 }},
		{"another To", func(w *api.World) { w.Mail.List[1].To = 3 }},
		{"From and To have changed places", func(w *api.World) {
			d := &w.Mail.List[1]
			d.From, d.To = d.To, d.From
		}},
		{"the first body is no packet", func(w *api.World) { w.Mail.List[0].Body = "x" }},
		{"a packet to a node beyond the world", func(w *api.World) { w.Mail.List[1] = flight(w.Mail.List[1].Number, 0, 4) }},
		{"a packet from a node beyond the world", func(w *api.World) { w.Mail.List[0] = flight(w.Mail.List[0].Number, 15, 0) }},

		{"a severed pair with one beyond the world", func(w *api.World) { w.Mail.Severed = append(w.Mail.Severed, api.Link{A: 3, B: 4}) }},
		{"a severed pair beyond the world", func(w *api.World) { w.Mail.Severed = append(w.Mail.Severed, api.Link{A: 4, B: 5}) }},
		{"a severed pair with one below 0", func(w *api.World) { w.Mail.Severed = slices.Insert(w.Mail.Severed, 0, api.Link{A: -1, B: 1}) }},
		{"a severed pair of one node", func(w *api.World) { w.Mail.Severed = []api.Link{{A: 1, B: 1}} }},
		{"a severed pair the greater one first", func(w *api.World) { w.Mail.Severed = []api.Link{{A: 2, B: 1}} }},
		{"a severed pair twice", func(w *api.World) { w.Mail.Severed = []api.Link{{A: 1, B: 2}, {A: 1, B: 2}} }},
		{"severed pairs do not rise", func(w *api.World) { slices.Reverse(w.Mail.Severed) }},

		{"fewer than none are lost", func(w *api.World) { w.Lost = -1 }},
		{"far fewer than none are lost", func(w *api.World) { w.Lost = math.MinInt64 }},
		{"one more than may be is lost", func(w *api.World) { w.Lost = lastLost + 1 }},
		{"far more than may be are lost", func(w *api.World) { w.Lost = math.MaxInt64 }},
	}
}

func TestP21_2UnfitOnes(t *testing.T) {
	if !Fit(base()) {
		t.Fatal("the base is not fit")
	}
	for _, c := range unfit() {
		if w := changed(c.do); Fit(w) || sayFit(w) {
			t.Errorf("%s: fit", c.what)
		}
	}
}

// Fit as the words say it, of worlds that are fit but for one thing or another.
func TestP21_2FitByTheWords(t *testing.T) {
	d, fit := newDice(4), 0
	for range 2000 {
		w := d.torn(d.one())
		if got, want := Fit(w), sayFit(w); got != want {
			t.Fatalf("%t, want %t: %+v", got, want, w)
		}
		if Fit(w) {
			fit++
		}
	}
	if fit < 200 || fit > 1300 {
		t.Errorf("%d of 2000 are fit", fit)
	}
}

// crowded is a world of two nodes that want each other, with so many Hellos in flight from 0 to 1.
func crowded(n int) api.World {
	w, _, _ := Run(2, []api.Step{{Kind: api.StLink, A: 0, B: 1}, {Kind: api.StLink, A: 1, B: 0}})
	body := hello(0, 1)
	for range n {
		w.Mail.Next++
		w.Mail.List = append(w.Mail.List, api.Datagram{Number: w.Mail.Next, From: 0, To: 1, Body: body})
	}
	return w
}

func TestP21_2FitOfAFullBag(t *testing.T) {
	if w := crowded(fullBag); !Fit(w) || !sayFit(w) {
		t.Error("as many packets as may be are in flight: not fit")
	}
}

// numbers are those that N and places are tried at.
func someInts() []int {
	return []int{math.MinInt, -1 << 32, -17, -1, 0, 1, 15, 16, 17, 1 << 32, math.MaxInt}
}

// with is a step with another value in a field.
func with(x api.Step, field rune, v int) api.Step {
	switch field {
	case 'A':
		x.A = v
	case 'B':
		x.B = v
	case 'K':
		x.K = v
	case 'N':
		x.N = int64(v)
	}
	return x
}

// A step has what its kind uses, at any number, and nothing else.
func TestP21_2Step(t *testing.T) {
	texts := []string{"m", "abcdefghijklmnop", "abcdefghijklmnopq", "M", " ", "\x00", "\xff\xfe", "no name", strings.Repeat("x", 1<<16)}
	for kind := api.StLink; kind <= api.StMend; kind++ {
		fields, is := uses(kind)
		if !is || !Step(api.Step{Kind: kind}) {
			t.Errorf("kind %d: none, with all that it uses 0", kind)
		}
		for _, f := range "ABKN" {
			for _, v := range someInts() {
				want := v == 0 || strings.ContainsRune(fields, f) || f == 'N' && v > 0 && strings.Contains(fields, "n")
				if x := with(api.Step{Kind: kind}, f, v); Step(x) != want || sayStep(x) != want {
					t.Errorf("%+v: %t, want %t", x, Step(x), want)
				}
			}
		}
		for _, s := range texts {
			if x := (api.Step{Kind: kind, Name: s}); Step(x) != strings.Contains(fields, "T") {
				t.Errorf("kind %d with a Name: %t", kind, Step(x))
			}
		}
	}
}

// The same, written down kind by kind: what has all fields is a step where its kind uses all that are not 0.
func TestP21_2StepKindByKind(t *testing.T) {
	a, ab := api.Step{A: -7}, api.Step{A: 1 << 40, B: -1}
	for _, c := range []struct {
		x     api.Step
		kinds []int
	}{
		{a, []int{api.StLink, api.StUnlink, api.StCreate, api.StDelete, api.StSet, api.StTick, api.StCrash, api.StRestart, api.StSever, api.StMend}},
		{ab, []int{api.StLink, api.StUnlink, api.StSever, api.StMend}},
		{api.Step{B: 1}, []int{api.StLink, api.StUnlink, api.StSever, api.StMend}},
		{api.Step{Name: "?"}, []int{api.StCreate, api.StDelete, api.StSet}},
		{api.Step{K: -1}, []int{api.StCreate}},
		{api.Step{N: -1}, []int{api.StCreate, api.StSet, api.StRestart}},
		{api.Step{N: math.MaxInt64}, []int{api.StCreate, api.StSet, api.StRestart, api.StDeliver, api.StDrop, api.StDouble}},
		{api.Step{A: 1, N: 1}, []int{api.StCreate, api.StSet, api.StRestart}},
		{api.Step{A: 1, Name: "m", N: 1}, []int{api.StCreate, api.StSet}},
		{api.Step{A: 1, Name: "m", K: 1, N: 1}, []int{api.StCreate}},
		{api.Step{A: 1, B: 1, N: 1}, nil},
		{api.Step{}, []int{1, 2, 3, 4, 5, 6, 7, 8, 9, 10, 11, 12, 13, 14, 15}},
	} {
		for _, kind := range append(someInts(), 2, 3, 4, 5, 6, 7, 8, 9, 10, 11, 12, 13, 14) {
			x := c.x
			x.Kind = kind
			if want := slices.Contains(c.kinds, kind); Step(x) != want {
				t.Errorf("%+v: %t, want %t", x, Step(x), want)
			}
		}
	}
}
