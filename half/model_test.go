package half

import (
	"maps"
	"math"
	"math/rand"
	"reflect"
	"regexp"
	"slices"
	"testing"

	"eddy/api"
)

func register(ver int64, writer int, flow int64) api.Reg {
	return api.Reg{Ver: ver, Writer: writer, Flow: flow}
}

func line(name string, r api.Reg) api.Line { return api.Line{Name: name, Reg: r} }

// edge is a half-edge with all that it may have, fit for node 2: each of its fields says which peer it leads to.
func edge(peer int) api.Half {
	return api.Half{
		Peer:    peer,
		Boot:    int64(100 + peer),
		Life:    int64(200 + peer),
		Lines:   []api.Line{line("a", register(1, 2, int64(peer))), line("m", register(7, peer, -int64(peer))), line("z_9", register(2, 2, 0))},
		Pending: true,
		Misses:  peer % 3,
	}
}

// bare is a half-edge without lines.
func bare(peer int) api.Half {
	return api.Half{Peer: peer, Boot: 1}
}

func edges(peers ...int) []api.Half {
	var l []api.Half
	for _, p := range peers {
		l = append(l, edge(p))
	}
	return l
}

// as is a half-edge, changed; its lines are its own.
func as(h api.Half, change func(h *api.Half)) api.Half {
	h = apart(h)
	change(&h)
	return h
}

// apart is a half-edge that shares nothing, with nil where there are no lines.
func apart(h api.Half) api.Half {
	var l []api.Line
	for _, x := range h.Lines {
		l = append(l, x)
	}
	h.Lines = l
	return h
}

func allApart(l []api.Half) []api.Half {
	var all []api.Half
	for _, h := range l {
		all = append(all, apart(h))
	}
	return all
}

// alike tells whether lists are the same, and so one for single half-edges; Same plays no part in it.
func alike(a, b []api.Half) bool { return reflect.DeepEqual(allApart(a), allApart(b)) }

func one(a, b api.Half) bool { return reflect.DeepEqual(apart(a), apart(b)) }

func sayNode(n int) bool {
	return slices.Contains([]int{0, 1, 2, 3, 4, 5, 6, 7, 8, 9, 10, 11, 12, 13, 14, 15}, n)
}

var sayName = regexp.MustCompile(`\A[a-z0-9_]{1,16}\z`).MatchString

// sayRegister says by the document's words which registers are fit for an edge.
func sayRegister(r api.Reg, a, b int) bool {
	switch {
	case !sayNode(a), !sayNode(b), a == b:
		return false
	case r.Ver == 0 && r.Writer == 0 && r.Flow == 0:
		return true
	case r.Ver < 1, r.Ver > 1099511627776, r.Flow < -2147483647, r.Flow > 2147483647:
		return false
	}
	return r.Writer == a || r.Writer == b
}

func sayNewer(a, b api.Reg) bool {
	if a.Ver == b.Ver {
		return a.Writer < b.Writer
	}
	return a.Ver > b.Ver
}

// sayFit says by the document's words which half-edges are fit: all that must hold is asked one after the other.
func sayFit(id int, h api.Half) bool {
	switch {
	case !sayNode(id), !sayNode(h.Peer), id == h.Peer:
		return false
	case h.Boot < 1, h.Boot > 1099511627776, h.Life < 0, h.Life > 1099511627776:
		return false
	case h.Misses < 0, h.Misses > 2, !h.Pending && h.Misses > 0:
		return false
	case len(h.Lines) > 8:
		return false
	}
	for i, x := range h.Lines {
		if !sayName(x.Name) || x.Reg == register(0, 0, 0) || !sayRegister(x.Reg, id, h.Peer) {
			return false
		}
		for _, ahead := range h.Lines[:i] {
			if slices.Compare([]byte(ahead.Name), []byte(x.Name)) >= 0 {
				return false
			}
		}
	}
	return true
}

func sayFits(id int, l []api.Half) bool {
	for i, h := range l {
		if !sayFit(id, h) {
			return false
		}
		for _, ahead := range l[:i] {
			if ahead.Peer >= h.Peer {
				return false
			}
		}
	}
	return sayNode(id)
}

// page is a half-edge's registers by their names; none is the zero one.
type page map[string]api.Reg

func pageOf(l []api.Line) page {
	p := page{}
	for _, x := range l {
		p[x.Name] = x.Reg
	}
	return p
}

func (p page) lines() []api.Line {
	var l []api.Line
	for _, name := range slices.Sorted(maps.Keys(p)) {
		l = append(l, line(name, p[name]))
	}
	return l
}

// sayWrite says by the document's words what Write answers.
func sayWrite(h api.Half, name string, r api.Reg) api.Half {
	p := pageOf(h.Lines)
	_, there := p[name]
	switch {
	case r == register(0, 0, 0):
		delete(p, name)
	case there || len(p) != 8:
		p[name] = r
	}
	h.Lines = p.lines()
	return h
}

func sayMerge(id int, h api.Half, name string, r api.Reg) (api.Half, bool) {
	if !sayRegister(r, id, h.Peer) || !sayNewer(r, pageOf(h.Lines)[name]) {
		return h, false
	}
	w := sayWrite(h, name, r)
	return w, !one(w, h)
}

// shelf is a node's half-edges by their peers.
type shelf map[int]api.Half

func shelfOf(l []api.Half) shelf {
	s := shelf{}
	for _, h := range l {
		s[h.Peer] = h
	}
	return s
}

func (s shelf) list() []api.Half {
	var l []api.Half
	for _, peer := range slices.Sorted(maps.Keys(s)) {
		l = append(l, s[peer])
	}
	return l
}

// subsets hands out all choices of some things, each in their order.
func subsets[T any](all []T) func(yield func([]T) bool) {
	return func(yield func([]T) bool) {
		for mask := range 1 << len(all) {
			var l []T
			for i, x := range all {
				if mask>>i&1 == 1 {
					l = append(l, x)
				}
			}
			if !yield(l) {
				return
			}
		}
	}
}

// orders hands out all orders of some things.
func orders[T any](all []T) func(yield func([]T) bool) {
	return func(yield func([]T) bool) {
		if len(all) == 0 {
			yield(nil)
			return
		}
		for i := range all {
			rest := append(slices.Clone(all[:i]), all[i+1:]...)
			for l := range orders(rest) {
				if !yield(append([]T{all[i]}, l...)) {
					return
				}
			}
		}
	}
}

// anyPeers are numbers of nodes, numbers beside them and far away.
func anyPeers() []int {
	l := []int{math.MinInt, -16, math.MaxInt, 1 << 32, 1<<32 + 5}
	for p := -2; p <= 17; p++ {
		l = append(l, p)
	}
	return l
}

// anyRegisters are fit for the edge of 2 and 5, or for another one, or for none.
func anyRegisters() []api.Reg {
	var l []api.Reg
	for _, ver := range []int64{math.MinInt64, -1, 0, 1, 2, api.MaxVer, api.MaxVer + 1} {
		for _, writer := range []int{-1, 0, 2, 4, 5, 15, 16} {
			for _, flow := range []int64{math.MinInt64, -api.MaxFlow - 1, -api.MaxFlow, 0, 7, api.MaxFlow, api.MaxFlow + 1} {
				l = append(l, register(ver, writer, flow))
			}
		}
	}
	return l
}

// dice draws what is fit, by a fixed seed.
type dice struct{ *rand.Rand }

func newDice(seed int64) dice { return dice{rand.New(rand.NewSource(seed))} }

// name is one of some more names than a half-edge may have lines.
func (d dice) name() string {
	return []string{"a", "a0", "a_", "aa", "b", "m", "z", "0", "9z", "_", "qqqqqqqqqqqqqqqq"}[d.Intn(11)]
}

// register is one that is fit for an edge, the zero one now and then.
func (d dice) register(a, b int) api.Reg {
	if d.Intn(8) == 0 {
		return api.Reg{}
	}
	vers := []int64{1, 2, 3, api.MaxVer}
	return register(vers[d.Intn(4)], []int{a, b}[d.Intn(2)], d.Int63n(2*api.MaxFlow+1)-api.MaxFlow)
}

// half is a half-edge that is fit for a node.
func (d dice) half(id int) api.Half {
	peer := (id + 1 + d.Intn(api.MaxNodes-1)) % api.MaxNodes
	p := page{}
	for range d.Intn(16) {
		if r := d.register(id, peer); r != (api.Reg{}) && len(p) < api.MaxChans {
			p[d.name()] = r
		}
	}
	h := api.Half{Peer: peer, Boot: 1 + d.Int63n(api.MaxBoot), Life: d.Int63n(api.MaxLife + 1), Lines: p.lines(), Pending: d.Intn(2) == 0}
	if h.Pending {
		h.Misses = d.Intn(api.MissLimit)
	}
	return h
}

// halves are some that are fit for a node.
func (d dice) halves(id int) []api.Half {
	s := shelf{}
	for range d.Intn(20) {
		h := d.half(id)
		s[h.Peer] = h
	}
	return s.list()
}

// The dice draw what is fit, or the tests that lean on them would say nothing.
func TestDiceDrawWhatIsFit(t *testing.T) {
	d, sizes, full := newDice(1), map[int]int{}, 0
	for i := range 2000 {
		l := d.halves(i % api.MaxNodes)
		if !sayFits(i%api.MaxNodes, l) {
			t.Fatalf("%+v", l)
		}
		sizes[len(l)]++
		for _, h := range l {
			if len(h.Lines) == api.MaxChans {
				full++
			}
		}
	}
	if sizes[0] == 0 || sizes[1] == 0 || sizes[12] == 0 || full == 0 {
		t.Errorf("sizes %v, with all lines %d", sizes, full)
	}
}
