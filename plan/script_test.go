package plan

import (
	"fmt"
	"math"
	"slices"
	"testing"

	"eddy/api"
	"eddy/view"
	"eddy/world"
)

func link(a, b int) api.Step { return api.Step{Kind: api.StLink, A: a, B: b} }

func setting(a int, name string, n int64) api.Step {
	return api.Step{Kind: api.StSet, A: a, Name: name, N: n}
}

// created are the steps between links and inputs.
func created(name string, kind int, scale int64) []api.Step {
	round := api.Step{Kind: api.StRound}
	return []api.Step{round, round, round, round, round, round, {Kind: api.StCreate, Name: name, K: kind, N: scale}, {Kind: api.StFlush}}
}

func TestP23_8Script(t *testing.T) {
	made := created("m", api.KMean, 4)
	ring := []api.Step{link(0, 1), link(1, 0), link(0, 3), link(3, 0), link(1, 2), link(2, 1), link(2, 3), link(3, 2)}
	odd := created("a name that is none", -7, math.MinInt64)
	for _, c := range []struct {
		n      int
		l      string
		name   string
		kind   int
		scale  int64
		inputs []int64
		want   [][]api.Step
	}{
		{1, "", "m", api.KMean, 4, nil, [][]api.Step{made}},
		{1, "", "m", api.KMean, 4, []int64{7}, [][]api.Step{made, {setting(0, "m", 7)}}},
		{1, "", "m", api.KMean, 4, []int64{7, 8}, [][]api.Step{made, {setting(0, "m", 7)}}},
		{2, "0 1", "m", api.KMean, 4, []int64{7}, [][]api.Step{{link(0, 1), link(1, 0)}, made, {setting(0, "m", 7)}}},
		{4, "0 1,0 3,1 2,2 3", "m", api.KMean, 4, []int64{-1, 0, 1}, [][]api.Step{ring, made, {setting(0, "m", -1), setting(1, "m", 0), setting(2, "m", 1)}}},
		{4, "0 1,0 3,1 2,2 3", "m", api.KMean, 4, []int64{5, 5, 5, 5}, [][]api.Step{ring, made, {setting(0, "m", 5), setting(1, "m", 5), setting(2, "m", 5), setting(3, "m", 5)}}},
		{4, "0 1,0 3,1 2,2 3", "m", api.KMean, 4, []int64{1, 2, 3, 4, 5, 6}, [][]api.Step{ring, made, {setting(0, "m", 1), setting(1, "m", 2), setting(2, "m", 3), setting(3, "m", 4)}}},
		{4, "0 1,0 3,1 2,2 3", "m", api.KMean, 4, []int64{}, [][]api.Step{ring, made}},
		{16, "14 15", "a name that is none", -7, math.MinInt64, []int64{math.MinInt64, math.MaxInt64}, [][]api.Step{{link(14, 15), link(15, 14)}, odd, {setting(0, "a name that is none", math.MinInt64), setting(1, "a name that is none", math.MaxInt64)}}},
		{3, "0 2", "", 0, 0, []int64{0, 0, 0}, [][]api.Step{{link(0, 2), link(2, 0)}, created("", 0, 0), {setting(0, "", 0), setting(1, "", 0), setting(2, "", 0)}}},
	} {
		got := Script(c.n, pairs(c.l), c.name, c.kind, c.scale, c.inputs)
		same(t, fmt.Sprintf("Script(%d, %s, %q, %d, %d, %v)", c.n, c.l, c.name, c.kind, c.scale, c.inputs), got, slices.Concat(c.want...))
	}
}

// Each step whole and in its order, of drawn networks, whatever names, kinds and scales are.
func TestP23_8DrawnScripts(t *testing.T) {
	d := newDice(8)
	for range 1500 {
		n := d.nodes()
		l, inputs := d.drawn(n), d.inputs(d.Intn(20))
		name, kind, scale := pick(d, []string{"m", "", "M", "\xff", "abcdefghijklmnop", "abcdefghijklmnopq"}), pick(d, []int{0, 1, 2, 3, 4, 5, -1, math.MaxInt, math.MinInt}), pick(d, []int64{0, 1, -1, api.MaxScale, api.MaxScale + 1, math.MinInt64, math.MaxInt64})
		same(t, fmt.Sprintf("Script(%d, %v, %q, %d, %d, %v)", n, l, name, kind, scale, inputs), Script(n, l, name, kind, scale, inputs), steps(n, l, name, kind, scale, inputs))
	}
}

// allowed are inputs that a kind may have, and what each is told as.
func (d dice) allowed(kind int, scale int64, many int) (inputs, told []int64) {
	for range many {
		x := d.Int63n(2001) - 1000
		if kind == api.KCount {
			x = d.Int63n(2)
		}
		inputs = append(inputs, x)
		if kind == api.KSquare {
			x *= x
		}
		told = append(told, x*scale)
	}
	return inputs, told
}

// The Scripts of drawn pairs, run over a world.
func TestP23_10ItCanBeRun(t *testing.T) {
	d, sorts := newDice(10), map[string]int{}
	for i := range 120 {
		n := d.nodes()
		l := d.drawn(n)
		if i%10 == 0 { // as many pairs as there may be at all
			l = d.crowd()
			n = 16
		}
		kind, scale, name := 1+i%4, 1+d.Int63n(5), pick(d, []string{"m", "abcdefghijklmnop", "_0"})
		if kind == api.KExt {
			scale = 1
		}
		inputs, told := d.allowed(kind, scale, d.Intn(n+3))
		w, outcomes, err := world.Run(n, Script(n, l, name, kind, scale, inputs))
		if err != api.OK {
			t.Fatal(err)
		}
		if !slices.Equal(view.Edges(w), l) {
			t.Fatalf("%v: held are %v", l, view.Edges(w))
		}
		for _, p := range l {
			if !view.Held(w, p.A, p.B) {
				t.Fatalf("%v: %v is not held", l, p)
			}
		}
		if len(w.Mail.List) != 0 || w.Lost != 0 {
			t.Fatalf("%v: %d are in flight, %d are lost", l, len(w.Mail.List), w.Lost)
		}
		want := api.Chan{Name: name, Epoch: 1, Maker: 0, Alive: true, Kind: kind, Scale: scale}
		for v, first := range parts(n, l) {
			c, has := view.Instance(w, v, name)
			if has != (first == 0) || has && c != want {
				t.Fatalf("%v: %d has %+v, %v", l, v, c, has)
			}
			if !has {
				sorts["is not joined"]++
				continue
			}
			sorts[fmt.Sprint("is joined ", v == 0)]++
			state := w.Nodes[v].Chans[0]
			if v < len(inputs) && (!state.Has || state.Input != told[v]) || v >= len(inputs) && state.Has {
				t.Fatalf("%v: %d has the input %d (%v), of %v", l, v, state.Input, state.Has, inputs)
			}
			sorts[fmt.Sprint("has ", state.Has)]++
		}
		refused(t, n, l, inputs, outcomes)
		sorts[fmt.Sprint(len(l) == 48)]++
	}
	enough(t, sorts, 20, "is not joined", "is joined true", "is joined false", "has true", "has false")
	enough(t, sorts, 5, "true")
}

// refused tells which steps come to nothing: the inputs of nodes that are not joined with node 0.
func refused(t *testing.T, n int, l []api.Link, inputs []int64, outcomes []api.Outcome) {
	t.Helper()
	p, first := parts(n, l), 2*len(l)+8
	for i, o := range outcomes {
		want := api.OK
		if i >= first && p[i-first] != 0 {
			want = api.ErrNone
		}
		if o.Err != want {
			t.Fatalf("%v, %v: step %d comes to %v", l, inputs, i, o.Err)
		}
	}
	if len(outcomes) != first+min(n, len(inputs)) {
		t.Fatalf("%d steps", len(outcomes))
	}
}

// crowd are pairs of 16 nodes of which each is in as many as it may be: three rings, of steps of three lengths.
func (d dice) crowd() []api.Link {
	s, order := ties{}, d.Perm(16)
	for _, step := range []int{1, 2, 3 + d.Intn(5)} {
		for i := range 16 {
			a, b := order[i], order[(i+step)%16]
			s[[2]int{min(a, b), max(a, b)}] = true
		}
	}
	return s.list()
}

// The shapes themselves can be run, with the sum of their inputs kept.
func TestP23_10Shapes(t *testing.T) {
	d := newDice(12)
	for _, shape := range kinds() {
		for _, n := range []int{1, 2, 3, 7, 16} {
			l, err := Links(shape, n, 3)
			if err != api.OK {
				continue
			}
			inputs, _ := d.allowed(api.KMean, 1, n)
			steps := append(Script(n, l, "m", api.KMean, 1, inputs), slices.Repeat([]api.Step{{Kind: api.StRound}}, 12)...)
			w, _, _ := world.Run(n, steps)
			var all []int
			for v := range n {
				all = append(all, v)
			}
			sum := int64(0)
			for _, x := range inputs {
				sum += x
			}
			if got, put, err := view.Sums(w, all, "m"); got != sum || put != sum || err != api.OK || !slices.Equal(view.Edges(w), l) || !view.Everywhere(w, "m") {
				t.Errorf("shape %d of %d: %d, %d, %v, not %d", shape, n, got, put, err, sum)
			}
		}
	}
}
