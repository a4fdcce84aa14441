package miss

import (
	"math"
	"math/rand"
	"reflect"
	"slices"
	"testing"

	"eddy/api"
	"eddy/half"
)

const (
	most = int64(1 << 40) // the greatest boot number, and the greatest life
	id   = 2              // the node whose half-edges these are
)

// What can happen, by the numbers of a row.
const (
	turn     = 1
	asked    = 2
	heard    = 3
	answered = 4
)

// A state is how many turns a half-edge has behind it with nothing heard: in 0 nothing is pending; in 1 to 3 an ask is,
// with one miss fewer. Behind one turn more it is dropped.
const (
	idle    = 0
	dropped = 4
)

// steps are the states behind each thing that happens, by the state ahead of it.
var steps = map[int][4]int{
	turn:     {1, 2, 3, dropped},
	asked:    {1, 1, 2, 3},
	heard:    {0, 1, 1, 1},
	answered: {0, 0, 0, 0},
}

// in is a half-edge in one of the states 0 to 3.
func in(state int, h api.Half) api.Half {
	h.Pending, h.Misses = state > 0, max(state-1, 0)
	return h
}

// sayState says which of the states 0 to 3 a half-edge is in.
func sayState(h api.Half) int {
	if !h.Pending {
		return idle
	}
	return h.Misses + 1
}

// say says what becomes of a half-edge by one thing that happens, and what a turn tells then.
func say(h api.Half, what int) (api.Half, int) {
	next, told := steps[what][sayState(h)], 0
	if what == turn {
		told = 1
	}
	if next == dropped {
		return api.Half{}, 2
	}
	return in(next, h), told
}

// sayPlay says what becomes of a half-edge by a row.
func sayPlay(h api.Half, l []int) (api.Half, []int) {
	var tells []int
	for _, what := range l {
		if _, known := steps[what]; !known {
			continue
		}
		told := 0
		if h, told = say(h, what); told > 0 {
			tells = append(tells, told)
		}
		if told == 2 {
			return h, tells
		}
	}
	return h, tells
}

// do calls what one thing that happens stands for.
func do(h api.Half, what int) (api.Half, int) {
	switch what {
	case turn:
		return Turn(h)
	case asked:
		return Asked(h), 0
	case heard:
		return Heard(h), 0
	case answered:
		return Answered(h), 0
	}
	return h, 0
}

// apart is a half-edge that shares nothing, with nil where there are no lines.
func apart(h api.Half) api.Half {
	h.Lines = append([]api.Line(nil), h.Lines...)
	return h
}

func same(a, b api.Half) bool { return reflect.DeepEqual(apart(a), apart(b)) }

// isZero tells whether it is the zero half-edge, the one with which nothing is shared.
func isZero(h api.Half) bool { return reflect.DeepEqual(h, api.Half{}) }

func line(name string, ver int64, writer int, flow int64) api.Line {
	return api.Line{Name: name, Reg: api.Reg{Ver: ver, Writer: writer, Flow: flow}}
}

// full are as many lines as there can be, of an edge to a peer.
func full(peer int) []api.Line {
	return []api.Line{
		line("0", 1, id, 0), line("_", most, peer, api.MaxFlow), line("a", 7, id, -3), line("abcdefghijklmnop", 1, peer, -api.MaxFlow),
		line("m", 2, id, 4), line("m1", 3, peer, 5), line("n", 4, id, 6), line("z", 5, peer, 7),
	}
}

// bases are half-edges, nothing pending: with no lines, with some and with as many as there can be; lives of 0 and above.
func bases() []api.Half {
	return []api.Half{
		{Peer: 5, Boot: 1},
		{Peer: 0, Boot: 1, Lines: []api.Line{}},
		{Peer: 15, Boot: most, Life: most},
		{Peer: 5, Boot: 3, Life: 1, Lines: []api.Line{line("m", 1, 5, 7)}},
		{Peer: 0, Boot: most, Lines: full(0)[2:5]},
		{Peer: 5, Boot: 9, Lines: full(5)},
		{Peer: 15, Boot: 1, Life: 4, Lines: full(15)},
		{Peer: 1, Boot: 2, Life: most - 1, Lines: full(1)},
	}
}

// fitOnes hands out half-edges in all states, with the state of each.
func fitOnes(yield func(state int, h api.Half) bool) {
	for _, h := range bases() {
		for state := range dropped {
			if !yield(state, in(state, h)) {
				return
			}
		}
	}
}

// none are numbers that stand for nothing in a row.
func none() []int {
	return []int{0, 5, -1, -2, -3, -4, -5, 6, 7, 8, 9, 257, 1 << 31, 1 << 32, 1<<32 + 1, 1<<32 + 4, 1 - 1<<32, 3 - 1<<32, math.MaxInt, math.MaxInt - 1, math.MinInt, math.MinInt + 1}
}

// rows hands out all rows of numbers 1 to kinds, up to a length.
func rows(kinds, longest int) func(yield func([]int) bool) {
	return func(yield func([]int) bool) {
		for n := range longest + 1 {
			l := make([]int, n)
			for i := range l {
				l[i] = 1
			}
			for more := true; more; more = count(l, kinds) {
				if !yield(l) {
					return
				}
			}
		}
	}
}

// count goes on to the next row of its length; false: that was the last one.
func count(l []int, kinds int) bool {
	for i := range l {
		if l[i] < kinds {
			l[i]++
			return true
		}
		l[i] = 1
	}
	return false
}

// dice draws half-edges and rows, by a fixed seed.
type dice struct{ *rand.Rand }

func newDice(seed int64) dice { return dice{rand.New(rand.NewSource(seed))} }

// half is a fit one.
func (d dice) half() api.Half {
	h := in(d.Intn(dropped), bases()[d.Intn(len(bases()))])
	h.Boot, h.Life = 1+d.Int63n(most), d.Int63n(most+1)
	return h
}

// row is one of things that happen, here and there with a number that stands for nothing.
func (d dice) row(length int) []int {
	var l []int
	for range d.Intn(length + 1) {
		switch k := d.Intn(12); {
		case k == 0:
			l = append(l, none()[d.Intn(len(none()))])
		case k < 6:
			l = append(l, turn)
		default:
			l = append(l, asked+k%3)
		}
	}
	return l
}

// What the tests go by is fit, and of all kinds, or they would say little.
func TestModelsAreFit(t *testing.T) {
	states, sizes := map[int]int{}, map[int]int{}
	for state, h := range fitOnes {
		if !half.Fit(id, h) || sayState(h) != state {
			t.Errorf("state %d: %+v", state, h)
		}
		states[state]++
		sizes[len(h.Lines)]++
	}
	if len(states) != 4 || sizes[0] == 0 || sizes[api.MaxChans] == 0 || len(sizes) < 4 {
		t.Errorf("states %v, sizes %v", states, sizes)
	}
	d, lasts := newDice(15), map[int]int{}
	for range 2000 {
		h, row := d.half(), d.row(40)
		if !half.Fit(id, h) {
			t.Fatalf("%+v", h)
		}
		if last, _ := sayPlay(h, row); isZero(last) {
			lasts[dropped]++
		} else {
			lasts[sayState(last)]++
		}
	}
	for state := range dropped + 1 {
		if lasts[state] < 100 {
			t.Errorf("drawn rows end in states %v", lasts)
		}
	}
	n := 0
	for l := range rows(5, 3) {
		n += len(l) + 1
	}
	if n != 1+2*5+3*25+4*125 {
		t.Errorf("rows: %d", n)
	}
	if slices.ContainsFunc(none(), func(x int) bool { return x >= 1 && x <= 4 }) {
		t.Error("one of those that stand for nothing stands for something")
	}
}
