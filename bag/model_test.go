package bag

import (
	"math"
	"math/rand"
	"slices"
	"strconv"
	"testing"

	"eddy/api"
)

const (
	least    = math.MinInt
	greatest = math.MaxInt
)

// The bag by the document's words: a state, and nothing but rows that are gone through from their beginnings.
type model struct{ st api.Mail }

func (m *model) severed(a, b int) bool {
	for _, p := range m.st.Severed {
		if p.A == a && p.B == b || p.A == b && p.B == a {
			return true
		}
	}
	return false
}

func (m *model) put(from, to int, body string) (int64, api.Errno) {
	if m.severed(from, to) {
		return 0, api.ErrLost
	}
	if len(m.st.List) == 65536 || m.st.Next == 1<<62 {
		return 0, api.ErrFull
	}
	m.st.Next++
	m.st.List = append(m.st.List, api.Datagram{Number: m.st.Next, From: from, To: to, Body: body})
	return m.st.Next, api.OK
}

// lose takes out what goes from one to another one, and counts it; anyone: whoever it is from.
func (m *model) lose(from, to int, anyone bool) int {
	var l []api.Datagram
	for _, d := range m.st.List {
		if d.To != to || d.From != from && !anyone {
			l = append(l, d)
		}
	}
	n := len(m.st.List) - len(l)
	m.st.List = l
	return n
}

func (m *model) take(number int64) (api.Datagram, api.Errno) {
	for i, d := range m.st.List {
		if d.Number == number {
			m.st.List = slices.Concat(m.st.List[:i], m.st.List[i+1:])
			return d, api.OK
		}
	}
	return api.Datagram{}, api.ErrNumber
}

func (m *model) double(number int64) (int64, api.Errno) {
	for _, d := range m.st.List {
		if d.Number == number {
			return m.put(d.From, d.To, d.Body)
		}
	}
	return 0, api.ErrNumber
}

func (m *model) between(from, to int) []int64 {
	var l []int64
	for _, d := range m.st.List {
		if d.From != from && from != -1 {
			continue
		}
		if d.To != to && to != -1 {
			continue
		}
		l = append(l, d.Number)
	}
	return l
}

func (m *model) sever(a, b int) int {
	if a == b {
		return 0
	}
	if !m.severed(a, b) {
		m.st.Severed = slices.Concat(m.st.Severed, []api.Link{{A: min(a, b), B: max(a, b)}})
		slices.SortFunc(m.st.Severed, func(p, q api.Link) int {
			if p.A < q.A || p.A == q.A && p.B < q.B {
				return -1
			}
			return 1
		})
	}
	return m.lose(a, b, false) + m.lose(b, a, false)
}

func (m *model) mend(a, b int) bool {
	for i, p := range m.st.Severed {
		if p.A == a && p.B == b || p.A == b && p.B == a {
			m.st.Severed = slices.Concat(m.st.Severed[:i], m.st.Severed[i+1:])
			return true
		}
	}
	return false
}

func (m *model) forget(to int) int { return m.lose(0, to, true) }

// fitByWords tells whether a state is fit, each pair and each two of a list asked.
func fitByWords(st api.Mail) bool {
	wrong := st.Next < 0 || st.Next > 1<<62 || len(st.List) > 65536
	for i, d := range st.List {
		wrong = wrong || d.Number < 1 || d.Number > st.Next || i > 0 && d.Number <= st.List[i-1].Number
	}
	for i, p := range st.Severed {
		wrong = wrong || p.A == p.B || p.A > p.B
		for _, q := range st.Severed[i+1:] {
			wrong = wrong || q.A < p.A || q.A == p.A && q.B <= p.B
		}
	}
	return !wrong
}

// The calls of a bag as data, so that rows of them can be made.

const (
	doPut = iota
	doTake
	doDouble
	doBetween
	doSever
	doMend
	doForget
)

type call struct {
	do     int
	a, b   int
	body   string
	number int64
}

// told is all that a call can tell.
type told struct {
	number int64
	count  int
	is     bool
	err    api.Errno
	packet api.Datagram
	list   string
}

func texts(l []int64) string {
	s := ""
	for _, x := range l {
		s += " " + strconv.FormatInt(x, 10)
	}
	return s
}

func (c call) onBag(b *Bag) told {
	var x told
	switch c.do {
	case doPut:
		x.number, x.err = b.Put(c.a, c.b, c.body)
	case doTake:
		x.packet, x.err = b.Take(c.number)
	case doDouble:
		x.number, x.err = b.Double(c.number)
	case doBetween:
		x.list = texts(b.Between(c.a, c.b))
	case doSever:
		x.count = b.Sever(c.a, c.b)
	case doMend:
		x.is = b.Mend(c.a, c.b)
	case doForget:
		x.count = b.Forget(c.a)
	}
	return x
}

func (c call) onModel(m *model) told {
	var x told
	switch c.do {
	case doPut:
		x.number, x.err = m.put(c.a, c.b, c.body)
	case doTake:
		x.packet, x.err = m.take(c.number)
	case doDouble:
		x.number, x.err = m.double(c.number)
	case doBetween:
		x.list = texts(m.between(c.a, c.b))
	case doSever:
		x.count = m.sever(c.a, c.b)
	case doMend:
		x.is = m.mend(c.a, c.b)
	case doForget:
		x.count = m.forget(c.a)
	}
	return x
}

// same holds states against each other; a list that is nil is one that is empty.
func same(a, b api.Mail) bool {
	return a.Next == b.Next && slices.Equal(a.List, b.List) && slices.Equal(a.Severed, b.Severed)
}

// deep is a state in memory of its own.
func deep(st api.Mail) api.Mail {
	return api.Mail{Next: st.Next, List: slices.Clone(st.List), Severed: slices.Clone(st.Severed)}
}

// of is the bag of a state that is fit.
func of(t *testing.T, st api.Mail) *Bag {
	t.Helper()
	b, ok := Of(st)
	if !ok || b == nil {
		t.Fatalf("Of(%#v) = %v, %v", st, b, ok)
	}
	return b
}

// is asks that a bag has this state.
func is(t *testing.T, name string, b *Bag, want api.Mail) {
	t.Helper()
	if got := b.State(); !same(got, want) || b.Len() != len(want.List) {
		t.Fatalf("%s: the state is %#v, the Len %d, want %#v", name, got, b.Len(), want)
	}
}

// heldToModel makes calls one behind the other of a bag with this state, and asks behind each that it has told, and has become, what the document says.
func heldToModel(t *testing.T, st api.Mail, calls ...call) {
	t.Helper()
	b, m := of(t, st), model{deep(st)}
	for i, c := range calls {
		got, want := c.onBag(b), c.onModel(&m)
		if got != want {
			t.Fatalf("%#v, behind %#v of %#v: told %#v, want %#v", c, calls[:i], st, got, want)
		}
		if is := b.State(); !same(is, m.st) || b.Len() != len(m.st.List) {
			t.Fatalf("%#v, behind %#v of %#v: the state is %#v, the Len %d, want %#v", c, calls[:i], st, is, b.Len(), m.st)
		}
	}
}

// What is tried.

// oddNodes are node numbers of every kind.
func oddNodes() []int {
	return []int{least, least + 1, -1 << 32, -3, -2, -1, 0, 1, 2, 15, 16, 1<<31 - 1, 1 << 31, 1<<32 - 1, 1 << 32, greatest - 1, greatest}
}

// oddNumbers are numbers of packets, and such as no packet has.
func oddNumbers() []int64 {
	return []int64{math.MinInt64, -1 << 62, -1 << 32, -2, -1, 0, 1, 2, 3, 4, 5, 6, 7, 8, 9, 1 << 31, 1 << 32, 1<<32 + 1, 1<<32 + 2, 1<<62 - 1, 1 << 62, 1<<62 + 1, math.MaxInt64}
}

func pick[T any](r *rand.Rand, l ...T) T { return l[r.Intn(len(l))] }

// drawnCall is a call that means, mostly, something to a bag with this state.
func drawnCall(r *rand.Rand, st api.Mail, nodes []int) call {
	c := call{do: pick(r, doPut, doPut, doPut, doPut, doTake, doDouble, doBetween, doSever, doMend, doMend, doForget), a: pick(r, nodes...), b: pick(r, nodes...)}
	if c.do == doForget && r.Intn(3) > 0 {
		c.do = doPut // else there would be few packets
	}
	switch {
	case c.do == doPut:
		c.body = pick(r, "", "a", "b", "\x00\xff", "a long one, that is no packet at all")
	case len(st.List) > 0 && r.Intn(6) > 0:
		c.number = st.List[r.Intn(len(st.List))].Number
	default:
		c.number = pick(r, st.Next, st.Next+1, st.Next-1, r.Int63n(max(st.Next, 1)), pick(r, oddNumbers()...))
	}
	return c
}

// drawnState is a fit state with gaps between its Numbers, and with packets also between pairs that are severed.
func drawnState(r *rand.Rand, nodes []int) api.Mail {
	var st api.Mail
	for range r.Intn(12) {
		st.Next += 1 + pick(r, 0, 0, 1, r.Int63n(5), r.Int63n(1<<40))
		st.List = append(st.List, api.Datagram{Number: st.Next, From: pick(r, nodes...), To: pick(r, nodes...), Body: pick(r, "", "x", "yy")})
	}
	st.Next += pick(r, 0, 0, 1, r.Int63n(100))
	m := model{api.Mail{}}
	for range r.Intn(4) {
		m.sever(pick(r, nodes...), pick(r, nodes...))
	}
	st.Severed = m.st.Severed
	if r.Intn(6) == 0 {
		st.Next = pick[int64](r, 1<<62, 1<<62-1, 1<<62-2)
	}
	return st
}
