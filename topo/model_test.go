package topo

import (
	"iter"
	"math"
	"math/rand"
	"slices"
	"testing"

	"eddy/api"
)

// ring is a node with the neighbours that it wants, and the turn.
type ring struct {
	id   int
	want []int
	turn int
}

// list, cut and next are what the calls answer.
type list struct {
	want []int
	err  api.Errno
}

type cut struct {
	want []int
	turn int
	err  api.Errno
}

type next struct {
	v, turn int
	ok      bool
}

func (l list) same(m list) bool { return slices.Equal(l.want, m.want) && l.err == m.err }

func (c cut) same(d cut) bool {
	return slices.Equal(c.want, d.want) && c.turn == d.turn && c.err == d.err
}

func (r ring) fit() bool         { return Fit(r.id, r.want, r.turn) }
func (r ring) turns(n int) []int { return Turns(r.want, r.turn, n) }
func (r ring) wait(v int) int    { return Wait(r.want, r.turn, v) }

func (r ring) link(v int) list {
	want, err := Link(r.id, r.want, v)
	return list{want, err}
}

func (r ring) unlink(v int) cut {
	want, turn, err := Unlink(r.want, r.turn, v)
	return cut{want, turn, err}
}

func (r ring) next() next {
	v, turn, ok := Next(r.want, r.turn)
	return next{v, turn, ok}
}

// node says which numbers are those of nodes.
func node(n int) bool { return n > -1 && n < 16 }

// sayFit says by the document's words whether a ring is fit.
func (r ring) sayFit() bool {
	stands := map[int]int{}
	for _, v := range r.want {
		stands[v]++
		if !node(v) || v == r.id || stands[v] > 1 {
			return false
		}
	}
	if !node(r.id) || len(r.want) > 6 {
		return false
	}
	return len(r.want) == 0 && r.turn == 0 || len(r.want) > 0 && r.turn > -1 && r.turn < len(r.want)
}

func (r ring) sayHas(v int) bool {
	for _, u := range r.want {
		if u == v {
			return true
		}
	}
	return false
}

func (r ring) sayLink(v int) list {
	l := list{want: append([]int{}, r.want...)}
	if len(r.want) == 6 {
		l.err = 43
	}
	if r.sayHas(v) {
		l.err = 42
	}
	if v == r.id {
		l.err = 41
	}
	if !node(v) {
		l.err = 40
	}
	if l.err == 0 {
		l.want = append(l.want, v)
	}
	return l
}

// sayUnlink says it by who is next: the same one as before, or the one behind it where that was v itself.
func (r ring) sayUnlink(v int) cut {
	if !r.sayHas(v) {
		return cut{r.want, r.turn, 44}
	}
	var left []int
	for _, u := range r.want {
		if u != v {
			left = append(left, u)
		}
	}
	for i := range r.want {
		u := r.want[(r.turn+i)%len(r.want)]
		if at := slices.Index(left, u); at > -1 {
			return cut{left, at, 0}
		}
	}
	return cut{nil, 0, 0}
}

func (r ring) sayNext() next {
	switch n := len(r.want); {
	case n == 0:
		return next{0, r.turn, false}
	case r.turn == n-1:
		return next{r.want[r.turn], 0, true}
	}
	return next{r.want[r.turn], r.turn + 1, true}
}

func (r ring) sayTurns(n int) []int {
	var l []int
	for i := 0; i < n && i < 100000 && len(r.want) > 0; i++ {
		l = append(l, r.want[(r.turn+i)%len(r.want)])
	}
	return l
}

func (r ring) sayWait(v int) int {
	for i, u := range r.sayTurns(len(r.want)) {
		if u == v {
			return i + 1
		}
	}
	return 0
}

// right holds all calls over a fit ring to what the words say.
func right(t *testing.T, r ring) {
	t.Helper()
	if !r.fit() || !r.sayFit() {
		t.Fatalf("Fit of %+v: %t", r, r.fit())
	}
	if got, want := r.next(), r.sayNext(); got != want {
		t.Fatalf("Next of %+v: %v, want %v", r, got, want)
	}
	for _, n := range []int{-1, 0, 1, 2, len(r.want), len(r.want) + 1, 20} {
		if got, want := r.turns(n), r.sayTurns(n); !slices.Equal(got, want) {
			t.Fatalf("Turns of %+v, %d times: %v, want %v", r, n, got, want)
		}
	}
	for _, v := range anyNumbers() {
		rightOf(t, r, v)
	}
}

// rightOf holds all calls that ask for a neighbour.
func rightOf(t *testing.T, r ring, v int) {
	t.Helper()
	if got, want := Has(r.want, v), r.sayHas(v); got != want {
		t.Fatalf("Has of %+v, %d: %t, want %t", r, v, got, want)
	}
	if got, want := r.link(v), r.sayLink(v); !got.same(want) {
		t.Fatalf("Link of %+v, %d: %v, want %v", r, v, got, want)
	}
	if got, want := r.unlink(v), r.sayUnlink(v); !got.same(want) {
		t.Fatalf("Unlink of %+v, %d: %v, want %v", r, v, got, want)
	}
	if got, want := r.wait(v), r.sayWait(v); got != want {
		t.Fatalf("Wait of %+v, %d: %d, want %d", r, v, got, want)
	}
}

// anyNumbers are all numbers of nodes, numbers beside them and far away.
func anyNumbers() []int {
	l := []int{math.MinInt, math.MinInt + 1, -1 << 32, 5 - 1<<32, -16, -2, -1, 16, 17, 21, 256, 1 << 16, 1 << 32, 1<<32 + 5, math.MaxInt - 1, math.MaxInt}
	for n := range 16 {
		l = append(l, n)
	}
	return l
}

// rows hands out every list of unlike ones among some numbers, each in memory of its own.
func rows(of ...int) iter.Seq[[]int] {
	return func(yield func([]int) bool) {
		var grow func(l []int) bool
		grow = func(l []int) bool {
			if !yield(slices.Clone(l)) {
				return false
			}
			for _, v := range of {
				if !slices.Contains(l, v) && !grow(append(slices.Clone(l), v)) {
					return false
				}
			}
			return true
		}
		grow(nil)
	}
}

// allRings hands out every fit ring of a node whose neighbours are among six numbers, the least and the greatest of all
// among them.
func allRings(yield func(ring) bool) {
	for want := range rows(0, 15, 5, 1, 7, 14) {
		for turn := range max(len(want), 1) {
			if !yield(ring{3, want, turn}) {
				return
			}
		}
	}
}

// dice draws by a fixed seed.
type dice struct{ *rand.Rand }

func newDice(seed int64) dice { return dice{rand.New(rand.NewSource(seed))} }

// ring is a fit one of any node.
func (d dice) ring() ring {
	p := d.Perm(api.MaxNodes)
	want := p[1 : 1+d.Intn(api.MaxDegree+1)]
	return ring{p[0], want, d.Intn(max(len(want), 1))}
}

// everywhere does something with all rings of one node, and with many of all nodes that are drawn.
func everywhere(seed int64, do func(ring)) {
	allRings(func(r ring) bool { do(r); return true })
	d := newDice(seed)
	for range 5000 {
		do(d.ring())
	}
}

// What everywhere hands out is of all lengths, with every turn, or the tests would say little.
func TestWhatIsDrawnIsOfAllKinds(t *testing.T) {
	counts, ids := map[[2]int]int{}, map[int]int{}
	everywhere(13, func(r ring) {
		counts[[2]int{len(r.want), r.turn}]++
		ids[r.id]++
	})
	if len(counts) != 1+1+2+3+4+5+6 || counts[[2]int{6, 5}] < 500 {
		t.Errorf("%v", counts)
	}
	for n := range 16 {
		if ids[n] < 100 {
			t.Errorf("node %d: %d times", n, ids[n])
		}
	}
}
