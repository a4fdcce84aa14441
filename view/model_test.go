package view

import (
	"cmp"
	"math"
	"math/big"
	"reflect"
	"slices"
	"testing"

	"eddy/api"
	"eddy/world"
)

const most = int64(2147483647)

// between is a way from a node to another one.
type between struct{ from, to int }

// life is an incarnation.
type life struct{ boot, life int64 }

// look is what an observer has of a world, by the document's words, laid otherwise than the world itself.
type look struct {
	n     int
	boots map[int]int64     // of those that are up
	mine  map[between]int64 // lives of a node towards another one
	named map[between]life  // what half-edges name
	regs  map[between]map[string]api.Reg
	chans map[int]map[string]api.State // those that are alive
}

func lookAt(w api.World) look {
	s := look{len(w.Nodes), map[int]int64{}, map[between]int64{}, map[between]life{}, map[between]map[string]api.Reg{}, map[int]map[string]api.State{}}
	for id, st := range w.Nodes {
		if !w.Up[id] {
			continue
		}
		s.boots[id] = st.Boot
		for _, x := range st.Seen {
			s.mine[between{id, x.Peer}] = x.Mine
		}
		for _, h := range st.Halves {
			way := between{id, h.Peer}
			s.named[way], s.regs[way] = life{h.Boot, h.Life}, map[string]api.Reg{}
			for _, l := range h.Lines {
				s.regs[way][l.Name] = l.Reg
			}
		}
		s.chans[id] = map[string]api.State{}
		for _, x := range st.Chans {
			if x.Chan.Alive {
				s.chans[id][x.Chan.Name] = x
			}
		}
	}
	return s
}

func (s look) up(a int) bool { _, is := s.boots[a]; return is }

// knows tells whether a's half-edge to b names b as it is.
func (s look) knows(a, b int) bool {
	l, is := s.named[between{a, b}]
	return is && s.up(b) && l == life{s.boots[b], s.mine[between{b, a}]}
}

func (s look) held(a, b int) bool { return s.knows(a, b) && s.knows(b, a) }

func (s look) instance(a int, name string) (api.Chan, bool) {
	x, is := s.chans[a][name]
	return x.Chan, is
}

// flowing is the instance of a channel at a node, if it has flows: its Epoch and Maker.
func (s look) flowing(a int, name string) (life, bool) {
	c, is := s.instance(a, name)
	return life{c.Epoch, int64(c.Maker)}, is && c.Kind >= 1 && c.Kind <= 3
}

// same tells whether all of some nodes have one instance, with flows.
func (s look) same(name string, l ...int) bool {
	found := map[life]int{}
	for _, a := range l {
		x, is := s.flowing(a, name)
		if !is {
			return false
		}
		found[x]++
	}
	return len(found) <= 1
}

func (s look) level(a, b int, name string) bool {
	return s.regs[between{a, b}][name] == s.regs[between{b, a}][name]
}

func (s look) agreed(a, b int, name string) bool {
	return s.held(a, b) && s.same(name, a, b) && s.level(a, b, name)
}

func (s look) edges() []api.Link {
	var l []api.Link
	for way := range s.named {
		if way.from < way.to && s.held(way.from, way.to) {
			l = append(l, api.Link{A: way.from, B: way.to})
		}
	}
	slices.SortFunc(l, func(k, l api.Link) int { return cmp.Or(cmp.Compare(k.A, l.A), cmp.Compare(k.B, l.B)) })
	return l
}

func (s look) open(name string) []api.Link {
	return slices.DeleteFunc(s.edges(), func(l api.Link) bool { return !s.same(name, l.A, l.B) || s.level(l.A, l.B, name) })
}

// estimate is what a node's half-edges leave it; false: it is out of its range.
func (s look) estimate(a int, name string) (int64, bool) {
	x := s.chans[a][name].Input
	for way, regs := range s.regs {
		switch {
		case way.from != a:
		case way.from < way.to:
			x -= regs[name].Flow
		default:
			x += regs[name].Flow
		}
	}
	if x < -most || x > most {
		return 0, false
	}
	return x, true
}

func (s look) seats(name string) []api.Seat {
	var l []api.Seat
	for a := range 16 {
		if _, is := s.flowing(a, name); is {
			x, fits := s.estimate(a, name)
			seat := api.Seat{Node: a, Input: s.chans[a][name].Input, Estimate: x}
			if !fits {
				seat.Err = 10
			}
			l = append(l, seat)
		}
	}
	return l
}

func (s look) everywhere(name string) bool {
	var all []int
	for a := range s.boots {
		all = append(all, a)
	}
	return len(all) > 0 && s.same(name, all...)
}

func (s look) closed(set []int, name string) bool {
	times := map[int]int{}
	for _, a := range set {
		times[a]++
		if !s.up(a) || times[a] > 1 {
			return false
		}
	}
	for way := range s.named {
		if times[way.from] > 0 && (times[way.to] == 0 || !s.agreed(way.from, way.to, name)) {
			return false
		}
	}
	return s.same(name, set...)
}

func (s look) sums(set []int, name string) (int64, int64, api.Errno) {
	var estimates, inputs int64
	for _, a := range set {
		c, is := s.instance(a, name)
		x, fits := s.estimate(a, name)
		for _, stands := range []struct {
			against bool
			err     api.Errno
		}{{a < 0 || a >= s.n, 40}, {!s.up(a), 51}, {!is, 44}, {c.Kind == 4, 46}, {!fits, 10}} {
			if stands.against {
				return 0, 0, stands.err
			}
		}
		estimates, inputs = estimates+x, inputs+s.chans[a][name].Input
	}
	return estimates, inputs, 0
}

// groups goes by who is reached from whom, over ways of any length.
func (s look) groups() [][]int {
	var leads [16][16]bool
	for a := range 16 {
		for b := range 16 {
			leads[a][b] = a == b || s.held(a, b)
		}
	}
	for by := range 16 {
		for a := range 16 {
			for b := range 16 {
				leads[a][b] = leads[a][b] || leads[a][by] && leads[by][b]
			}
		}
	}
	var l [][]int
	for a := range 16 {
		var group []int
		for b := range 16 {
			if s.up(b) && leads[a][b] {
				group = append(group, b)
			}
		}
		if s.up(a) && group[0] == a {
			l = append(l, group)
		}
	}
	return l
}

// against is what stands against the estimates of all seats.
func (s look) against(name string) api.Errno {
	l := s.seats(name)
	switch {
	case len(l) == 0:
		return 50
	case slices.ContainsFunc(l, func(x api.Seat) bool { return x.Err != 0 }):
		return 10
	}
	return 0
}

func (s look) spread(name string) (int64, int64, api.Errno) {
	if err := s.against(name); err != 0 {
		return 0, 0, err
	}
	least, greatest := int64(math.MaxInt64), int64(math.MinInt64)
	for _, x := range s.seats(name) {
		least, greatest = min(least, x.Estimate), max(greatest, x.Estimate)
	}
	return least, greatest, 0
}

func (s look) squares(name string) (api.Wide, api.Errno) {
	if err := s.against(name); err != 0 {
		return api.Wide{}, err
	}
	total := new(big.Int)
	for _, x := range s.seats(name) {
		total.Add(total, new(big.Int).Mul(big.NewInt(x.Estimate), big.NewInt(x.Estimate)))
	}
	high := new(big.Int).Rsh(total, 64)
	low := new(big.Int).Sub(total, new(big.Int).Lsh(high, 64))
	return api.Wide{Hi: high.Uint64(), Lo: low.Uint64()}, 0
}

// same tells whether two values are the same; lists that are nil and empty are.
func same(a, b any) bool { return equal(reflect.ValueOf(a), reflect.ValueOf(b)) }

func equal(a, b reflect.Value) bool {
	switch a.Kind() {
	case reflect.Slice:
		if a.Len() != b.Len() {
			return false
		}
		for i := range a.Len() {
			if !equal(a.Index(i), b.Index(i)) {
				return false
			}
		}
		return true
	case reflect.Struct:
		for i := range a.NumField() {
			if !equal(a.Field(i), b.Field(i)) {
				return false
			}
		}
		return true
	}
	return a.Equal(b)
}

// is fails where an answer is not the one that is wanted.
func is(t *testing.T, w api.World, what string, got, want any) {
	t.Helper()
	if !same(got, want) {
		t.Fatalf("%s: %+v, want %+v\nin %+v", what, got, want, w)
	}
}

// numbers are all nodes of a world, and some that are none.
func numbers(n int) []int {
	l := []int{math.MinInt, -1 << 32, -2, -1, n, n + 1, 16, 17, 1 << 32, 1<<32 + 1, math.MaxInt}
	for a := range n {
		l = append(l, a)
	}
	return l
}

type ended struct {
	a, b any
	err  api.Errno
}

// check holds all that is seen of a world against the words; of which sorts it was is counted.
func check(t *testing.T, w api.World, sorts map[string]int, sets ...[]int) {
	t.Helper()
	if !world.Fit(w) {
		t.Fatalf("a world that is not fit: %+v", w)
	}
	s := lookAt(w)
	checkEdges(t, w, s, sorts)
	is(t, w, "Groups", Groups(w), s.groups())
	for _, g := range s.groups() {
		sorts["group of "+size(len(g))]++
	}
	for _, name := range []string{"a", "m", "n", "b", ""} {
		checkChannel(t, w, s, name, sorts)
		for _, set := range sets {
			checkSet(t, w, s, set, name, sorts)
		}
	}
}

// size is how many there are, in one word.
func size(n int) string { return []string{"none", "one", "two", "many"}[min(n, 3)] }

func checkEdges(t *testing.T, w api.World, s look, sorts map[string]int) {
	t.Helper()
	is(t, w, "Edges", Edges(w), s.edges())
	sorts["edges: "+size(len(s.edges()))]++
	for _, a := range numbers(s.n) {
		for _, b := range numbers(s.n) {
			held := s.held(a, b)
			is(t, w, "Held", Held(w, a, b), held)
			if _, half := s.named[between{a, b}]; half {
				sorts[map[bool]string{true: "held", false: "a half-edge, not held"}[held]]++
			}
			for _, name := range names3() {
				is(t, w, "Agreed "+name, Agreed(w, a, b, name), s.agreed(a, b, name))
			}
		}
	}
}

func checkChannel(t *testing.T, w api.World, s look, name string, sorts map[string]int) {
	t.Helper()
	for _, a := range numbers(s.n) {
		c, has := Instance(w, a, name)
		want, wanted := s.instance(a, name)
		is(t, w, "Instance "+name, ended{c, has, 0}, ended{want, wanted, 0})
	}
	is(t, w, "Open "+name, Open(w, name), s.open(name))
	is(t, w, "Seats "+name, Seats(w, name), s.seats(name))
	is(t, w, "Everywhere "+name, Everywhere(w, name), s.everywhere(name))
	low, high, err := Spread(w, name)
	l, h, e := s.spread(name)
	is(t, w, "Spread "+name, ended{low, high, err}, ended{l, h, e})
	total, err := Squares(w, name)
	x, e := s.squares(name)
	is(t, w, "Squares "+name, ended{total, nil, err}, ended{x, nil, e})
	sorts["open: "+size(len(s.open(name)))]++
	sorts["seats: "+err.Error()]++
	if s.everywhere(name) && len(s.seats(name)) > 1 {
		sorts["everywhere"]++
	}
}

func checkSet(t *testing.T, w api.World, s look, set []int, name string, sorts map[string]int) {
	t.Helper()
	is(t, w, "Closed "+name, Closed(w, set, name), s.closed(set, name))
	x, y, err := Sums(w, set, name)
	e, i, want := s.sums(set, name)
	is(t, w, "Sums "+name, ended{x, y, err}, ended{e, i, want})
	sorts["sums: "+err.Error()]++
	if s.closed(set, name) {
		sorts["closed: "+size(len(set))]++
	}
}
