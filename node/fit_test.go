package node

import (
	"math"
	"slices"
	"testing"

	"eddy/api"
)

// change is base with something changed.
type change struct {
	what string
	do   func(st *api.Node)
}

func TestP20_2FitOnes(t *testing.T) {
	for _, c := range []change{
		{"nothing", func(st *api.Node) {}},
		{"the first boot", func(st *api.Node) { st.Boot = 1 }},
		{"the last boot", func(st *api.Node) { st.Boot = last }},
		{"no ticks", func(st *api.Node) { st.Ticks = 0 }},
		{"the last tick", func(st *api.Node) { st.Ticks = last }},
		{"the last turn", func(st *api.Node) { st.Turn = 3 }},
		{"six neighbours", func(st *api.Node) { st.Want = append(st.Want, 15, 3) }},
		{"nothing seen of who is wanted", func(st *api.Node) { st.Seen = st.Seen[1:] }},
		{"seen of who is not wanted", func(st *api.Node) { st.Seen = append(st.Seen, api.Seen{Peer: 15, Boot: last, Life: last, Mine: last}) }},
		{"no half-edges", func(st *api.Node) { st.Halves = nil }},
		{"an earlier boot is named", func(st *api.Node) { st.Halves[1].Boot = 2 }},
		{"an earlier boot is named, of a greater life", func(st *api.Node) { st.Halves[1].Boot, st.Halves[1].Life = 2, last }},
		{"an earlier life is named", func(st *api.Node) { st.Halves[1].Life = 0 }},
		{"no lines", func(st *api.Node) { st.Halves[1].Lines = nil }},
		{"a line of KSquare", func(st *api.Node) { st.Halves[1].Lines = append(st.Halves[1].Lines, line("q", last, 5, most)) }},
		{"the most misses", func(st *api.Node) { st.Halves[1].Misses = 2 }},
		{"nothing pending", func(st *api.Node) { st.Halves[1].Pending, st.Halves[1].Misses = false, 0 }},
		{"no channels", func(st *api.Node) { st.Chans, st.Halves[0].Lines, st.Halves[1].Lines = nil, nil, nil }},
		{"no input", func(st *api.Node) { st.Chans[3].Has, st.Chans[3].Input = false, 0 }},
		{"the greatest input", func(st *api.Node) { st.Chans[3].Input = most }},
		{"an estimate that leaves its range", func(st *api.Node) { st.Chans[3].Input, st.Halves[1].Lines[1].Reg.Flow = most, -most }},
		{"eight channels", func(st *api.Node) {
			st.Chans = append(st.Chans, api.State{Chan: gone("r", 1, 1, 1, 1)}, api.State{Chan: on("s", last, 15, 1, mostScale)}, api.State{Chan: on("z", 1, 0, api.KExt, 1)})
		}},
		{"empty lists", func(st *api.Node) {
			*st = api.Node{Id: 15, Boot: 1, Want: []int{}, Seen: []api.Seen{}, Halves: []api.Half{}, Chans: []api.State{}}
		}},
	} {
		if st := as(base(), c.do); !Fit(st) || !sayFit(st) {
			t.Errorf("%s: not fit", c.what)
		}
	}
}

// unfit are changes of base by which one demand is not kept, and no other one.
func unfit() []change {
	return []change{
		{"Id below 0", func(st *api.Node) { st.Id = -1; st.Halves = nil }},
		{"Id 16", func(st *api.Node) { st.Id = 16; st.Halves = nil }},
		{"Id 2^32 more", func(st *api.Node) { st.Id += 1 << 32; st.Halves = nil }},
		{"Boot 0", func(st *api.Node) { st.Boot = 0 }},
		{"Boot below 0", func(st *api.Node) { st.Boot = math.MinInt64 }},
		{"Boot beyond the last", func(st *api.Node) { st.Boot = last + 1 }},
		{"Ticks below 0", func(st *api.Node) { st.Ticks = -1 }},
		{"Ticks beyond the last", func(st *api.Node) { st.Ticks = last + 1 }},
		{"it wants no node", func(st *api.Node) { st.Want[0] = 16 }},
		{"it wants one below 0", func(st *api.Node) { st.Want[0] = -1 }},
		{"it wants itself", func(st *api.Node) { st.Want[0] = 2 }},
		{"it wants one twice", func(st *api.Node) { st.Want[0] = 5 }},
		{"it wants seven", func(st *api.Node) { st.Want = append(st.Want, 10, 11, 12) }},
		{"Turn is behind the last", func(st *api.Node) { st.Turn = 4 }},
		{"Turn is below 0", func(st *api.Node) { st.Turn = -1 }},
		{"Turn where nobody is wanted", func(st *api.Node) { st.Want, st.Halves = nil, nil }},
		{"a peer twice among what was seen", func(st *api.Node) { st.Seen[0].Peer = 1 }},
		{"what was seen does not rise", func(st *api.Node) { st.Seen[0].Peer = 15 }},
		{"it has seen itself", func(st *api.Node) { st.Seen = slices.Insert(st.Seen, 2, api.Seen{Peer: 2, Boot: 1}) }},
		{"it has seen no node", func(st *api.Node) { st.Seen = append(st.Seen, api.Seen{Peer: 16, Boot: 1}) }},
		{"it has seen nothing of a peer", func(st *api.Node) { st.Seen = append(st.Seen, api.Seen{Peer: 15}) }},
		{"it has seen a life without a boot", func(st *api.Node) { st.Seen[0].Boot = 0 }},
		{"it has seen a boot beyond the last", func(st *api.Node) { st.Seen[0].Boot = last + 1 }},
		{"its own life is below 0", func(st *api.Node) { st.Seen[0].Mine = -1 }},
		{"a half-edge twice", func(st *api.Node) { st.Halves = slices.Insert(st.Halves, 0, st.Halves[0]) }},
		{"half-edges do not rise", func(st *api.Node) { slices.Reverse(st.Halves) }},
		{"a half-edge without a boot", func(st *api.Node) { st.Halves[1].Boot = 0 }},
		{"a half-edge with a life below 0", func(st *api.Node) { st.Halves[1].Life = -1 }},
		{"misses with nothing pending", func(st *api.Node) { st.Halves[1].Pending = false }},
		{"too many misses", func(st *api.Node) { st.Halves[1].Misses = 3 }},
		{"misses below 0", func(st *api.Node) { st.Halves[1].Misses = -1 }},
		{"a line twice", func(st *api.Node) { st.Halves[1].Lines[0] = st.Halves[1].Lines[1] }},
		{"lines do not rise", func(st *api.Node) { slices.Reverse(st.Halves[1].Lines) }},
		{"a line with the zero register", func(st *api.Node) { st.Halves[1].Lines[1].Reg = api.Reg{} }},
		{"a line written by another node", func(st *api.Node) { st.Halves[1].Lines[1].Reg.Writer = 1 }},
		{"a flow beyond the range", func(st *api.Node) { st.Halves[1].Lines[1].Reg.Flow = most + 1 }},
		{"a version beyond the last", func(st *api.Node) { st.Halves[1].Lines[1].Reg.Ver = last + 1 }},
		{"channels do not rise", func(st *api.Node) { st.Chans[2].Chan.Name = "a" }},
		{"a channel twice", func(st *api.Node) { st.Chans[2].Chan.Name = "e" }},
		{"a channel with no name", func(st *api.Node) { st.Chans[2].Chan.Name = "G" }},
		{"a channel of no kind", func(st *api.Node) { st.Chans[2].Chan.Kind = 0 }},
		{"a channel of a kind beyond", func(st *api.Node) { st.Chans[4].Chan.Kind = 5 }},
		{"a channel with no scale", func(st *api.Node) { st.Chans[3].Chan.Scale = 0 }},
		{"an epoch 0", func(st *api.Node) { st.Chans[3].Chan.Epoch = 0 }},
		{"a maker that is none", func(st *api.Node) { st.Chans[3].Chan.Maker = 16 }},
		{"an input beyond the range", func(st *api.Node) { st.Chans[3].Input = most + 1 }},
		{"an input that was not set", func(st *api.Node) { st.Chans[3].Has = false }},
		{"an input of a channel that is not alive", func(st *api.Node) { st.Chans[2].Has = true }},
		{"an extreme value of KMean", func(st *api.Node) { st.Chans[3].Min = of(1, 1, 1) }},
		{"an extreme value that is too old", func(st *api.Node) { st.Chans[1].Max.Age = 64 }},
		{"nine channels", func(st *api.Node) {
			for _, n := range []string{"r", "s", "t", "u"} {
				st.Chans = append(st.Chans, api.State{Chan: gone(n, 1, 1, 1, 1)})
			}
		}},
		{"a half-edge to a peer that is not wanted", func(st *api.Node) { st.Want = []int{9, 5, 0} }},
		{"a half-edge to a peer of which nothing was seen", func(st *api.Node) { st.Seen = st.Seen[:2] }},
		{"a half-edge to a peer of which only the own life is known", func(st *api.Node) { st.Seen[2].Boot, st.Seen[2].Life = 0, 0 }},
		{"a half-edge names a later boot", func(st *api.Node) { st.Halves[1].Boot, st.Halves[1].Life = 4, 0 }},
		{"a half-edge names a later life", func(st *api.Node) { st.Halves[1].Life = 2 }},
		{"a line without a channel", func(st *api.Node) { st.Halves[1].Lines[1].Name = "n" }},
		{"a line of a channel that is not alive", func(st *api.Node) { st.Halves[1].Lines[1].Name = "g" }},
		{"a line of a channel of KExt", func(st *api.Node) { st.Halves[1].Lines[1].Name = "e" }},
		{"a first line of a channel that is not alive", func(st *api.Node) { st.Chans[0] = api.State{Chan: gone("c", 3, 1, api.KCount, 1)} }},
		{"a first half-edge with a line of KExt", func(st *api.Node) { st.Halves[0].Lines[0].Name = "e" }},
		{"a first half-edge that names a later life", func(st *api.Node) { st.Halves[0].Life = 1 }},
	}
}

func TestP20_2UnfitOnes(t *testing.T) {
	if !Fit(base()) {
		t.Fatal("base is not fit")
	}
	for _, c := range unfit() {
		if st := as(base(), c.do); Fit(st) || sayFit(st) {
			t.Errorf("%s: fit", c.what)
		}
	}
	for _, st := range []api.Node{{}, {Id: 3}, {Boot: 1, Turn: 1}, {Boot: 1, Ticks: -1}} {
		if Fit(st) {
			t.Errorf("%+v: fit", st)
		}
	}
}

func TestP20_2FitByTheWords(t *testing.T) {
	d, fit := newDice(202), 0
	for range 30000 {
		st := d.unfitNode()
		if Fit(st) != sayFit(st) {
			t.Fatalf("%+v: %t", st, Fit(st))
		}
		if Fit(st) {
			fit++
		}
	}
	if fit < 300 {
		t.Errorf("%d were fit", fit)
	}
	for range 3000 {
		if st := d.fit(); !Fit(st) {
			t.Fatalf("%+v: not fit", st)
		}
	}
}

// others are changes of each field of a state by itself.
func others() []change {
	return []change{
		{"Id", func(st *api.Node) { st.Id = 3 }},
		{"Boot", func(st *api.Node) { st.Boot++ }},
		{"Ticks", func(st *api.Node) { st.Ticks++ }},
		{"Want, another one", func(st *api.Node) { st.Want[0] = 8 }},
		{"Want, one less", func(st *api.Node) { st.Want = st.Want[:3] }},
		{"Want, the order", func(st *api.Node) { st.Want[0], st.Want[1] = st.Want[1], st.Want[0] }},
		{"Want, none", func(st *api.Node) { st.Want = nil }},
		{"Turn", func(st *api.Node) { st.Turn = 0 }},
		{"Seen, the peer", func(st *api.Node) { st.Seen[2].Peer = 6 }},
		{"Seen, the boot", func(st *api.Node) { st.Seen[0].Boot++ }},
		{"Seen, the life", func(st *api.Node) { st.Seen[0].Life++ }},
		{"Seen, the own life", func(st *api.Node) { st.Seen[2].Mine++ }},
		{"Seen, one less", func(st *api.Node) { st.Seen = st.Seen[:2] }},
		{"Halves, the peer", func(st *api.Node) { st.Halves[0].Peer = 0 }},
		{"Halves, the boot", func(st *api.Node) { st.Halves[0].Boot-- }},
		{"Halves, the life", func(st *api.Node) { st.Halves[1].Life-- }},
		{"Halves, a line's name", func(st *api.Node) { st.Halves[1].Lines[1].Name = "q" }},
		{"Halves, a line's version", func(st *api.Node) { st.Halves[1].Lines[1].Reg.Ver++ }},
		{"Halves, a line's writer", func(st *api.Node) { st.Halves[1].Lines[1].Reg.Writer = 5 }},
		{"Halves, a line's flow", func(st *api.Node) { st.Halves[1].Lines[1].Reg.Flow++ }},
		{"Halves, a line less", func(st *api.Node) { st.Halves[1].Lines = st.Halves[1].Lines[:1] }},
		{"Halves, pending", func(st *api.Node) { st.Halves[0].Pending = true }},
		{"Halves, misses", func(st *api.Node) { st.Halves[1].Misses++ }},
		{"Halves, one less", func(st *api.Node) { st.Halves = st.Halves[:1] }},
		{"Chans, the name", func(st *api.Node) { st.Chans[4].Chan.Name = "r" }},
		{"Chans, the epoch", func(st *api.Node) { st.Chans[4].Chan.Epoch++ }},
		{"Chans, the maker", func(st *api.Node) { st.Chans[4].Chan.Maker++ }},
		{"Chans, alive", func(st *api.Node) { st.Chans[2].Chan.Alive = true }},
		{"Chans, the kind", func(st *api.Node) { st.Chans[4].Chan.Kind-- }},
		{"Chans, the scale", func(st *api.Node) { st.Chans[4].Chan.Scale++ }},
		{"Chans, whether there is an input", func(st *api.Node) { st.Chans[4].Has = true }},
		{"Chans, the input", func(st *api.Node) { st.Chans[3].Input++ }},
		{"Chans, the least, whether it is there", func(st *api.Node) { st.Chans[1].Min = none }},
		{"Chans, the least", func(st *api.Node) { st.Chans[1].Min.Value-- }},
		{"Chans, whose the least is", func(st *api.Node) { st.Chans[1].Min.Origin++ }},
		{"Chans, how old the least is", func(st *api.Node) { st.Chans[1].Min.Age++ }},
		{"Chans, the greatest", func(st *api.Node) { st.Chans[1].Max.Value-- }},
		{"Chans, whose the greatest is", func(st *api.Node) { st.Chans[1].Max.Origin++ }},
		{"Chans, how old the greatest is", func(st *api.Node) { st.Chans[1].Max.Age++ }},
		{"Chans, one less", func(st *api.Node) { st.Chans = st.Chans[:4] }},
	}
}

func TestP20_2Same(t *testing.T) {
	if !Same(base(), base()) || !Same(api.Node{}, api.Node{}) {
		t.Error("a state is not the same as itself")
	}
	empty := api.Node{Want: []int{}, Seen: []api.Seen{}, Halves: []api.Half{}, Chans: []api.State{}}
	if !Same(api.Node{}, empty) || !Same(empty, api.Node{}) {
		t.Error("nil lists and empty ones are not the same")
	}
	noLines := func(l []api.Line) api.Node { return api.Node{Halves: []api.Half{{Peer: 1, Lines: l}}} }
	if !Same(noLines(nil), noLines([]api.Line{})) {
		t.Error("nil lines and empty ones are not the same")
	}
	changes := append(others(), unfit()...)
	for i, c := range changes {
		st := as(base(), c.do)
		if Same(st, base()) || Same(base(), st) || !Same(st, as(base(), c.do)) {
			t.Errorf("%s: Same is wrong", c.what)
		}
		for _, d := range changes[:i] {
			if two := as(base(), d.do); Same(st, two) != alike(st, two) || Same(two, st) != alike(st, two) {
				t.Errorf("%s against %s: Same is wrong", c.what, d.what)
			}
		}
	}
	dice := newDice(2022)
	for range 3000 {
		a, b := dice.unfitNode(), dice.fit()
		if Same(a, b) != alike(a, b) || !Same(a, a) || !Same(b, b) {
			t.Fatalf("%+v and %+v: %t", a, b, Same(a, b))
		}
	}
}
