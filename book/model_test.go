package book

import (
	"maps"
	"math"
	"math/big"
	"math/rand"
	"slices"
	"testing"

	"eddy/api"
	"eddy/half"
)

const most = api.MaxFlow

func register(ver int64, writer int, flow int64) api.Reg {
	return api.Reg{Ver: ver, Writer: writer, Flow: flow}
}

func line(name string, r api.Reg) api.Line { return api.Line{Name: name, Reg: r} }

// to is a half-edge with these lines.
func to(peer int, lines ...api.Line) api.Half {
	return api.Half{Peer: peer, Boot: int64(peer) + 1, Life: 3, Lines: lines, Pending: true, Misses: 2}
}

// flowOf is the flow of an edge that takes so much from a node.
func flowOf(id, peer int, out int64) int64 {
	if id > peer {
		return -out
	}
	return out
}

// taking is a half-edge of a node with a line for m, which takes so much from it, between lines of other names.
func taking(id, peer int, out int64) api.Half {
	writer := []int{id, peer}[peer%2]
	return to(peer, line("l", register(9, id, 1000003)), line("m", register(int64(peer)+1, writer, flowOf(id, peer, out))), line("m0", register(8, peer, most)))
}

// others are the peers that a node may have, rising.
func others(id int) []int {
	var l []int
	for p := range api.MaxNodes {
		if p != id {
			l = append(l, p)
		}
	}
	return l
}

// takings are half-edges to the first peers that a node may have: each takes one of these numbers from it.
func takings(id int, outs ...int64) []api.Half {
	var l []api.Half
	for i, out := range outs {
		l = append(l, taking(id, others(id)[i], out))
	}
	return l
}

// account is what edges take from a node, by their peers.
type account map[int]*big.Int

// sayTaken says by the document's words what each half-edge with a line of a name takes.
func sayTaken(id int, halves []api.Half, name string) account {
	a := account{}
	for _, h := range halves {
		for _, x := range h.Lines {
			if x.Name != name {
				continue
			}
			a[h.Peer] = big.NewInt(x.Reg.Flow)
			if id > h.Peer {
				a[h.Peer].Neg(a[h.Peer])
			}
		}
	}
	return a
}

// without is the account but for one peer.
func (a account) without(peer int) account {
	left := maps.Clone(a)
	delete(left, peer)
	return left
}

func (a account) total() *big.Int {
	x := new(big.Int)
	for _, out := range a {
		x.Add(x, out)
	}
	return x
}

// lessTaken is the input less the total.
func (a account) lessTaken(input int64) *big.Int {
	return new(big.Int).Sub(big.NewInt(input), a.total())
}

// of is what one peer's edge takes.
func (a account) of(peer int) *big.Int {
	if out, ok := a[peer]; ok {
		return out
	}
	return new(big.Int)
}

// answer is what a call answers.
type answer struct {
	num int64
	err api.Errno
}

func told(x int64, e api.Errno) answer { return answer{x, e} }

// sayNumber says what is answered where this is the true number.
func sayNumber(x *big.Int) answer {
	if x.CmpAbs(big.NewInt(2147483647)) > 0 {
		return answer{0, 10}
	}
	return answer{x.Int64(), 0}
}

func sayPage(id int, halves []api.Half, name string) []api.Entry {
	a := sayTaken(id, halves, name)
	var l []api.Entry
	for _, h := range halves {
		if out, ok := a[h.Peer]; ok {
			l = append(l, api.Entry{Peer: h.Peer, Out: out.Int64()})
		}
	}
	return l
}

// right holds all calls to what the words say, towards all peers that are told.
func right(t *testing.T, id int, input int64, halves []api.Half, name string, peers []int) {
	t.Helper()
	a := sayTaken(id, halves, name)
	if got, want := Page(id, halves, name), sayPage(id, halves, name); !slices.Equal(got, want) {
		t.Fatalf("Page(%d, %+v, %q): %v, want %v", id, halves, name, got, want)
	}
	if got, want := told(Taken(id, halves, name)), sayNumber(a.total()); got != want {
		t.Fatalf("Taken(%d, %+v, %q): %v, want %v", id, halves, name, got, want)
	}
	if got, want := told(Estimate(id, input, halves, name)), sayNumber(a.lessTaken(input)); got != want {
		t.Fatalf("Estimate(%d, %d, %+v, %q): %v, want %v", id, input, halves, name, got, want)
	}
	for _, peer := range peers {
		if got, want := told(Rest(id, input, halves, name, peer)), sayNumber(a.without(peer).lessTaken(input)); got != want {
			t.Fatalf("Rest(%d, %d, %+v, %q, %d): %v, want %v", id, input, halves, name, peer, got, want)
		}
		if got, want := told(Back(id, halves, name, peer)), sayNumber(a.of(peer)); got != want {
			t.Fatalf("Back(%d, %+v, %q, %d): %v, want %v", id, halves, name, peer, got, want)
		}
	}
}

// anyPeers are numbers of nodes, numbers beside them and far away.
func anyPeers() []int {
	l := []int{math.MinInt, -1 << 32, math.MaxInt, 1 << 32, 1<<32 + 5, 1<<16 + 1}
	for p := -2; p <= 17; p++ {
		l = append(l, p)
	}
	return l
}

// dice draws what is fit, by a fixed seed.
type dice struct{ *rand.Rand }

func newDice(seed int64) dice { return dice{rand.New(rand.NewSource(seed))} }

func names() []string { return []string{"_", "l", "m", "m0", "mm", "n", "qqqqqqqqqqqqqqqq"} }

func (d dice) name() string { return names()[d.Intn(len(names()))] }

// number is one that may be a flow or an input, often at the range's edge or nought.
func (d dice) number() int64 {
	switch d.Intn(6) {
	case 0:
		return most - d.Int63n(3)
	case 1:
		return d.Int63n(3) - most
	case 2:
		return d.Int63n(5) - 2
	case 3:
		return most/2 + d.Int63n(3)
	case 4:
		return -most/2 - d.Int63n(3)
	}
	return d.Int63n(2*most+1) - most
}

// lines are some that are fit for an edge.
func (d dice) lines(a, b int) []api.Line {
	var l []api.Line
	for _, name := range names() {
		if d.Intn(3) > 0 {
			l = append(l, line(name, register(1+d.Int63n(api.MaxVer), []int{a, b}[d.Intn(2)], d.number())))
		}
	}
	return l
}

// halves are some of a node's, at one of all counts that there may be.
func (d dice) halves(id int) []api.Half {
	peers := others(id)
	d.Shuffle(len(peers), func(i, j int) { peers[i], peers[j] = peers[j], peers[i] })
	peers = peers[:d.Intn(len(peers)+1)]
	slices.Sort(peers)
	var l []api.Half
	for _, p := range peers {
		h := to(p)
		if d.Intn(8) > 0 {
			h.Lines = d.lines(id, p)
		}
		l = append(l, h)
	}
	return l
}

// The half-edges that the tests lean on are fit, or the tests would say nothing.
func TestWhatIsDrawnIsFit(t *testing.T) {
	d, sizes := newDice(1), map[int]int{}
	for i := range 2000 {
		id := i % api.MaxNodes
		l := d.halves(id)
		if !half.Fits(id, l) {
			t.Fatalf("%+v", l)
		}
		sizes[len(l)]++
	}
	if len(sizes) != api.MaxNodes {
		t.Errorf("sizes %v", sizes)
	}
	for id := range api.MaxNodes {
		if l := takings(id, slices.Repeat([]int64{most, 0, -most}, 5)...); !half.Fits(id, l) || len(l) != 15 {
			t.Errorf("%+v", l)
		}
	}
}
