package calm

import (
	"math/big"
	"reflect"
	"slices"
	"testing"

	"eddy/api"
	"eddy/world"
)

const most = int64(2147483647)

// between is a way from a node to another one.
type between struct{ from, to int }

// life is an incarnation.
type life struct{ boot, life int64 }

// look is what an observer has of a world, by the document's words, laid otherwise than the world itself.
type look struct {
	boots map[int]int64     // of those that are up
	mine  map[between]int64 // lives of a node towards another one
	named map[between]life  // what half-edges name
	regs  map[between]map[string]api.Reg
	chans map[int]map[string]api.State // those that are alive, of kinds with flows
}

func lookAt(w api.World) look {
	s := look{map[int]int64{}, map[between]int64{}, map[between]life{}, map[between]map[string]api.Reg{}, map[int]map[string]api.State{}}
	for id, st := range w.Nodes {
		if !w.Up[id] {
			continue
		}
		s.boots[id] = st.Boot
		for _, x := range st.Seen {
			s.mine[between{id, x.Peer}] = x.Mine
		}
		for _, h := range st.Halves {
			way := between{id, h.Peer}
			s.named[way], s.regs[way] = life{h.Boot, h.Life}, map[string]api.Reg{}
			for _, l := range h.Lines {
				s.regs[way][l.Name] = l.Reg
			}
		}
		s.chans[id] = map[string]api.State{}
		for _, x := range st.Chans {
			if x.Chan.Alive && x.Chan.Kind != api.KExt {
				s.chans[id][x.Chan.Name] = x
			}
		}
	}
	return s
}

// knows tells whether a's half-edge to b names b as it is.
func (s look) knows(a, b int) bool {
	l, is := s.named[between{a, b}]
	boot, up := s.boots[b]
	return is && up && l == life{boot, s.mine[between{b, a}]}
}

func (s look) held(a, b int) bool { return s.knows(a, b) && s.knows(b, a) }

// one tells whether two nodes have the same instance.
func (s look) one(a, b int, name string) bool {
	c, is := s.chans[a][name]
	d, also := s.chans[b][name]
	return is && also && c.Chan.Epoch == d.Chan.Epoch && c.Chan.Maker == d.Chan.Maker
}

// open tells whether an edge is, for a name.
func (s look) open(a, b int, name string) bool {
	return s.held(a, b) && s.one(a, b, name) && s.regs[between{a, b}][name] != s.regs[between{b, a}][name]
}

// somewhere tells whether an edge is open for a name.
func (s look) somewhere(name string) bool {
	for way := range s.named {
		if s.open(way.from, way.to, name) {
			return true
		}
	}
	return false
}

// everywhere tells whether all nodes that are up have one instance.
func (s look) everywhere(name string) bool {
	for a := range s.boots {
		for b := range s.boots {
			if !s.one(a, b, name) {
				return false
			}
		}
	}
	return len(s.boots) > 0
}

// estimate is what a node's input is less what its edges take, whether that is in its range or not; false: it has no seat.
func (s look) estimate(a int, name string) (int64, bool) {
	x, is := s.chans[a][name]
	left := x.Input
	for way, regs := range s.regs {
		if way.from == a && way.from < way.to {
			left -= regs[name].Flow
		} else if way.from == a {
			left += regs[name].Flow
		}
	}
	return left, is
}

// squares is the sum of the squares of all estimates.
func (s look) squares(name string) *big.Int {
	sum := new(big.Int)
	for a := range s.boots {
		if x, is := s.estimate(a, name); is {
			sum.Add(sum, new(big.Int).Mul(big.NewInt(x), big.NewInt(x)))
		}
	}
	return sum
}

func inRange(x int64) bool { return -most <= x && x <= most }

// sayQuiet is Quiet, sayReady Ready, by the words.
func sayQuiet(w api.World) bool { return len(w.Mail.List)+len(w.Mail.Severed) == 0 }

func sayReady(w api.World) bool {
	s := lookAt(w)
	for way := range s.named {
		if !s.held(way.from, way.to) {
			return false
		}
	}
	for _, have := range s.chans {
		for name := range have {
			if s.somewhere(name) {
				return false
			}
		}
	}
	return sayQuiet(w)
}

// saySettled is Settled, by the words.
func saySettled(w api.World, name string) bool {
	s := lookAt(w)
	for way := range s.named {
		x, is := s.estimate(way.from, name)
		y, also := s.estimate(way.to, name)
		if !is || !also || !s.held(way.from, way.to) {
			continue
		}
		if !inRange(x) || !inRange(y) || max(x, y)-min(x, y) >= 2 {
			return false
		}
	}
	return true
}

// over tells whether nothing is to be done any more for a name.
func over(w api.World, name string) bool { return saySettled(w, name) && !lookAt(w).somewhere(name) }

// saySerial is Serial, by the words: from the last number on back to the first.
func saySerial(w api.World, order []int) (api.World, []api.Beat) {
	order = order[:min(len(order), 4096)]
	if len(order) == 0 {
		return w, nil
	}
	last := len(order) - 1
	w, l := saySerial(w, order[:last])
	b := api.Beat{Node: order[last]}
	steps := []api.Step{tick(order[last]), flush()}
	for i := 0; i < len(steps) && b.Err == api.OK; i++ {
		var o api.Outcome
		w, o = world.Do(w, steps[i])
		b.Err = o.Err
		b.Events = append(b.Events, o.Events...)
	}
	return w, append(l, b)
}

// sayRounds is Rounds, by the words.
func sayRounds(w api.World, n int) (api.World, []api.Told) {
	if n < 1 {
		return w, nil
	}
	w, told := sayRounds(w, min(n, 1000)-1)
	w, o := world.Do(w, round())
	return w, append(told, o.Events...)
}

// saySettle is Settle, by the words.
func saySettle(w api.World, name string, most int) (api.World, int, bool) {
	n := 0
	for n < most && n < 1000 && !over(w, name) {
		w, _ = world.Do(w, round())
		n++
	}
	return w, n, over(w, name)
}

// sayCalm is Calm, by the words.
func sayCalm(l []api.Beat) bool {
	count := 0
	for _, b := range l {
		count += int(b.Err) * int(b.Err)
		for _, e := range b.Events {
			if slices.Contains([]int{4, 5, 2}, e.Event.Kind) {
				count++
			}
		}
	}
	return count == 0
}

// ended is what a call has come to: all its results.
type ended struct{ w, x, y any }

// is fails where something is another thing than it should be; lists that are nil and empty are the same.
func is(t *testing.T, w api.World, what string, got, want any) {
	t.Helper()
	if !alike(got, want) {
		t.Fatalf("%s is %+v, want %+v: %+v", what, got, want, w)
	}
}

func alike(a, b any) bool { return like(reflect.ValueOf(a), reflect.ValueOf(b)) }

func like(a, b reflect.Value) bool {
	if a.IsValid() != b.IsValid() || a.IsValid() && a.Type() != b.Type() {
		return false
	}
	if !a.IsValid() {
		return true
	}
	switch a.Kind() {
	case reflect.Interface:
		return like(a.Elem(), b.Elem())
	case reflect.Slice:
		if a.Len() != b.Len() {
			return false
		}
		for i := range a.Len() {
			if !like(a.Index(i), b.Index(i)) {
				return false
			}
		}
		return true
	case reflect.Struct:
		for i := range a.NumField() {
			if !like(a.Field(i), b.Field(i)) {
				return false
			}
		}
		return true
	}
	return a.Equal(b)
}
