package bag

import (
	"math/rand"
	"slices"
	"strings"
	"testing"

	"eddy/api"
)

func TestExamples(t *testing.T) {
	b := New()
	n, err := b.Put(1, 2, "a")
	if n != 1 || err != api.OK {
		t.Errorf("Put: %d, %v", n, err)
	}
	if n, err = b.Put(2, 1, "b"); n != 2 || err != api.OK {
		t.Errorf("Put: %d, %v", n, err)
	}
	if n, err = b.Double(1); n != 3 || err != api.OK {
		t.Errorf("Double: %d, %v", n, err)
	}
	if l := b.Between(1, -1); !slices.Equal(l, []int64{1, 3}) {
		t.Errorf("Between: %v", l)
	}
	if d, err := b.Take(1); d != (api.Datagram{Number: 1, From: 1, To: 2, Body: "a"}) || err != api.OK {
		t.Errorf("Take: %#v, %v", d, err)
	}
	if d, err := b.Take(1); d != (api.Datagram{}) || err != api.ErrNumber {
		t.Errorf("Take again: %#v, %v", d, err)
	}
	if n := b.Sever(2, 1); n != 2 || b.Len() != 0 {
		t.Errorf("Sever: %d, Len %d", n, b.Len())
	}
	if n, err := b.Put(1, 2, "c"); n != 0 || err != api.ErrLost {
		t.Errorf("Put of a severed pair: %d, %v", n, err)
	}
	if !b.Mend(1, 2) || b.Mend(1, 2) {
		t.Error("Mend")
	}
	if n, err := b.Put(1, 2, "c"); n != 4 || err != api.OK {
		t.Errorf("Put behind Mend: %d, %v", n, err)
	}
	if b, ok := Of(api.Mail{Next: 5, List: numbered(3, 3)}); b != nil || ok {
		t.Error("two packets of one number")
	}
}

func TestP6_2Put(t *testing.T) {
	b := New()
	var want api.Mail
	bodies := []string{"", "a", "\x00", "\xff\xfe", "é", strings.Repeat("long", 20000)}
	for _, from := range oddNodes() {
		for _, to := range oddNodes() {
			body := bodies[len(want.List)%len(bodies)]
			want.Next++
			want.List = append(want.List, api.Datagram{Number: want.Next, From: from, To: to, Body: body})
			if n, err := b.Put(from, to, body); n != want.Next || err != api.OK {
				t.Fatalf("Put(%d, %d): %d, %v", from, to, n, err)
			}
		}
	}
	is(t, "all pairs", b, want)
}

// Numbers go on behind Next, not behind the last packet.
func TestP6_2NumbersGoOnBehindNext(t *testing.T) {
	for _, st := range []api.Mail{{Next: 7}, {Next: 7, List: numbered(1)}, {Next: 7, List: numbered(7)}, {Next: 1<<62 - 1}, {Next: 1 << 32, List: numbered(2, 5)}} {
		heldToModel(t, st, call{do: doPut, a: 3, b: 4, body: "x"}, call{do: doPut, a: 4, b: 3, body: "y"})
	}
}

func TestP6_2TheLastNumber(t *testing.T) {
	b := of(t, api.Mail{Next: 1<<62 - 2, List: numbered(5, 1<<62-2)})
	for _, want := range []int64{1<<62 - 1, 1 << 62} {
		if n, err := b.Put(1, 2, "a"); n != want || err != api.OK {
			t.Errorf("Put: %d, %v, want %d", n, err, want)
		}
	}
	kept := b.State()
	for range 3 {
		if n, err := b.Put(1, 2, "a"); n != 0 || err != api.ErrFull {
			t.Errorf("Put beyond the last number: %d, %v", n, err)
		}
		if n, err := b.Double(5); n != 0 || err != api.ErrFull {
			t.Errorf("Double beyond the last number: %d, %v", n, err)
		}
		is(t, "beyond the last number", b, kept)
	}
	if d, err := b.Take(1 << 62); d.Number != 1<<62 || err != api.OK {
		t.Errorf("Take of the last number: %#v, %v", d, err)
	}
	b.Forget(2)
	if n, err := b.Put(1, 2, "a"); n != 0 || err != api.ErrFull || b.Len() != 0 {
		t.Errorf("Put into an empty bag beyond the last number: %d, %v", n, err)
	}
}

func TestP6_2AFullBag(t *testing.T) {
	b := New()
	for i := range api.MaxBag {
		if n, err := b.Put(i%3, 3+i%2, "a"); n != int64(i)+1 || err != api.OK {
			t.Fatalf("Put %d: %d, %v", i, n, err)
		}
	}
	kept := b.State()
	if len(kept.List) != api.MaxBag || b.Len() != api.MaxBag {
		t.Fatalf("%d packets, Len %d", len(kept.List), b.Len())
	}
	for range 2 {
		if n, err := b.Put(1, 2, "a"); n != 0 || err != api.ErrFull {
			t.Errorf("Put into a full bag: %d, %v", n, err)
		}
		if n, err := b.Double(1); n != 0 || err != api.ErrFull {
			t.Errorf("Double in a full bag: %d, %v", n, err)
		}
		if n, err := b.Double(api.MaxBag + 1); n != 0 || err != api.ErrNumber {
			t.Errorf("Double of no packet in a full bag: %d, %v", n, err)
		}
		is(t, "a full bag", b, kept)
	}
	if d, err := b.Take(300); d != kept.List[299] || err != api.OK {
		t.Errorf("Take: %#v, %v", d, err)
	}
	if n, err := b.Double(7); n != api.MaxBag+1 || err != api.OK || b.Len() != api.MaxBag {
		t.Errorf("Double where one has gone: %d, %v", n, err)
	}
	if _, err := b.Put(1, 2, "a"); err != api.ErrFull {
		t.Errorf("Put into a bag that is full again: %v", err)
	}
	// From 0 to 3 goes every sixth one, and 7 was one of them.
	if n := b.Sever(3, 0); n != (api.MaxBag+5)/6+1 {
		t.Errorf("Sever: %d", n)
	}
	if n, err := b.Put(5, 6, "a"); n != api.MaxBag+2 || err != api.OK {
		t.Errorf("Put where many were lost: %d, %v", n, err)
	}
}

// A bag that Of gave is as full as one that was filled.
func TestP6_2AFullState(t *testing.T) {
	b := of(t, api.Mail{Next: 1 << 40, List: row(api.MaxBag)})
	if n, err := b.Put(1, 2, "a"); n != 0 || err != api.ErrFull {
		t.Errorf("Put: %d, %v", n, err)
	}
	b = of(t, api.Mail{Next: 1 << 40, List: row(api.MaxBag - 1)})
	if n, err := b.Put(1, 2, "a"); n != 1<<40+1 || err != api.OK {
		t.Errorf("Put of the last one that has room: %d, %v", n, err)
	}
	if n, err := b.Put(1, 2, "a"); n != 0 || err != api.ErrFull {
		t.Errorf("Put of one more: %d, %v", n, err)
	}
}

// Of two errors the first one is told: no such number, a severed pair, no room.
func TestP6_2And4TheFirstError(t *testing.T) {
	far := api.Mail{Next: 1 << 62, List: numbered(1, 2), Severed: links(1, 2)}
	full := api.Mail{Next: api.MaxBag, List: row(api.MaxBag), Severed: links(1, 2, 3, 4)}
	both := api.Mail{Next: 1 << 62, List: row(api.MaxBag), Severed: links(1, 2)}
	for _, st := range []api.Mail{far, full, both} {
		b := of(t, st)
		for _, c := range [][2]int{{1, 2}, {2, 1}} {
			if n, err := b.Put(c[0], c[1], "a"); n != 0 || err != api.ErrLost {
				t.Errorf("Put of a severed pair into a bag without room: %d, %v", n, err)
			}
		}
		for _, c := range [][2]int{{1, 1}, {1, 3}, {2, 2}, {0, 1}, {-1, -1}} {
			if n, err := b.Put(c[0], c[1], "a"); n != 0 || err != api.ErrFull {
				t.Errorf("Put of another pair into a bag without room: %d, %v", n, err)
			}
		}
		for _, number := range []int64{-1, 0, api.MaxBag + 1, 1 << 62} {
			if n, err := b.Double(number); n != 0 || err != api.ErrNumber {
				t.Errorf("Double of no packet in a bag without room: %d, %v", n, err)
			}
		}
		for _, d := range st.List[:min(len(st.List), 40)] {
			want := api.ErrFull
			if d.From == 1 && d.To == 2 || d.From == 2 && d.To == 1 {
				want = api.ErrLost
			} else if len(st.Severed) > 1 && (d.From == 3 && d.To == 4 || d.From == 4 && d.To == 3) {
				want = api.ErrLost
			}
			if n, err := b.Double(d.Number); n != 0 || err != want {
				t.Errorf("Double of %#v in a bag without room: %d, %v, want %v", d, n, err, want)
			}
		}
		is(t, "behind errors", b, st)
	}
}

// Whoever has severed a pair has severed it in both orders, and no other one.
func TestP6_2Lost(t *testing.T) {
	for _, x := range oddNodes() {
		for _, y := range oddNodes() {
			b := New()
			b.Sever(x, y)
			kept := b.State()
			for _, from := range oddNodes() {
				for _, to := range oddNodes() {
					lost := x != y && (from == x && to == y || from == y && to == x)
					n, err := b.Put(from, to, "a")
					if lost && (n != 0 || err != api.ErrLost) || !lost && err != api.OK {
						t.Fatalf("%d and %d severed: Put(%d, %d): %d, %v", x, y, from, to, n, err)
					}
				}
			}
			if got := b.State(); !slices.Equal(got.Severed, kept.Severed) {
				t.Fatalf("%d and %d severed: %#v", x, y, got.Severed)
			}
		}
	}
}

func TestP6_3Take(t *testing.T) {
	st := api.Mail{Next: 20, List: []api.Datagram{{Number: 1, From: 1, To: 2, Body: "a"}, {Number: 2, From: -1, To: 7}, {Number: 5, From: 2, To: 1, Body: "\xff"}, {Number: 9, From: 1, To: 2, Body: "a"}, {Number: 19, From: least, To: greatest, Body: "e"}}, Severed: links(1, 2)}
	for i, d := range st.List {
		b := of(t, st)
		if got, err := b.Take(d.Number); got != d || err != api.OK {
			t.Errorf("Take(%d) = %#v, %v", d.Number, got, err)
		}
		rest := deep(st)
		rest.List = slices.Delete(rest.List, i, i+1)
		is(t, "behind Take", b, rest)
		if got, err := b.Take(d.Number); got != (api.Datagram{}) || err != api.ErrNumber {
			t.Errorf("Take(%d) again = %#v, %v", d.Number, got, err)
		}
		is(t, "behind Take again", b, rest)
	}
	b := of(t, st)
	for _, n := range append(oddNumbers(), 18, 20, 21, 10) {
		if slices.ContainsFunc(st.List, func(d api.Datagram) bool { return d.Number == n }) {
			continue
		}
		if got, err := b.Take(n); got != (api.Datagram{}) || err != api.ErrNumber {
			t.Errorf("Take(%d) = %#v, %v", n, got, err)
		}
	}
	is(t, "behind numbers that no packet has", b, st)
	for _, n := range oddNumbers() {
		if got, err := New().Take(n); got != (api.Datagram{}) || err != api.ErrNumber {
			t.Errorf("Take(%d) out of an empty bag = %#v, %v", n, got, err)
		}
	}
}

// orders are of the numbers 0 to n-1: from the first on, from the last on, both in turn, from the middle on, and two at random.
func orders(n int) [][]int {
	up := make([]int, n)
	for i := range up {
		up[i] = i
	}
	down := slices.Clone(up)
	slices.Reverse(down)
	turn, middle := make([]int, 0, n), make([]int, 0, n)
	for i := range n {
		if i%2 == 0 {
			turn = append(turn, i/2)
		} else {
			turn = append(turn, n-1-i/2)
		}
	}
	middle = append(middle, turn...)
	slices.Reverse(middle)
	r := rand.New(rand.NewSource(3))
	return [][]int{up, down, turn, middle, r.Perm(n), r.Perm(n)}
}

func TestP6_3TakeInEveryOrder(t *testing.T) {
	for n := range 7 {
		for _, order := range permutations(n) {
			var calls []call
			for i, x := range order {
				calls = append(calls, call{do: doTake, number: int64(x) + 1})
				if i%2 == 1 {
					calls = append(calls, call{do: doPut, a: x, b: 1, body: "new"})
				}
			}
			heldToModel(t, api.Mail{Next: int64(n), List: row(n)}, calls...)
		}
	}
}

func permutations(n int) [][]int {
	if n == 0 {
		return [][]int{nil}
	}
	var l [][]int
	for _, p := range permutations(n - 1) {
		for at := range n {
			l = append(l, slices.Insert(slices.Clone(p), at, n-1))
		}
	}
	return l
}

func TestP6_3TakeAllOfAFullBag(t *testing.T) {
	list := row(api.MaxBag)
	for i := range list {
		list[i].Number = 3*int64(i) + 2
	}
	st := api.Mail{Next: 1 << 30, List: list}
	for _, order := range orders(api.MaxBag) {
		b := of(t, st)
		for i, at := range order {
			if d, err := b.Take(list[at].Number); d != list[at] || err != api.OK {
				t.Fatalf("Take(%d) = %#v, %v", list[at].Number, d, err)
			}
			if d, err := b.Take(list[at].Number + 1); d != (api.Datagram{}) || err != api.ErrNumber {
				t.Fatalf("Take(%d) = %#v, %v", list[at].Number+1, d, err)
			}
			if b.Len() != api.MaxBag-1-i {
				t.Fatalf("Len %d behind %d", b.Len(), i+1)
			}
			if i == api.MaxBag/2 {
				is(t, "half of it taken", b, api.Mail{Next: st.Next, List: left(list, order[i+1:])})
			}
		}
		is(t, "all taken", b, api.Mail{Next: st.Next})
	}
}

// left is those of a list that stand at places.
func left(list []api.Datagram, places []int) []api.Datagram {
	l := make([]api.Datagram, 0, len(places))
	for _, at := range slices.Sorted(slices.Values(places)) {
		l = append(l, list[at])
	}
	return l
}

// A row of packets that come and go in turn, far more of them than a bag holds.
func TestP6_3ComingAndGoing(t *testing.T) {
	b := New()
	for i := range int64(3 * api.MaxBag) {
		if n, err := b.Put(1, 2, "a"); n != i+1 || err != api.OK {
			t.Fatalf("Put: %d, %v", n, err)
		}
		if i < 100 {
			continue
		}
		if d, err := b.Take(i - 99); d.Number != i-99 || err != api.OK || b.Len() != 100 {
			t.Fatalf("Take(%d) = %#v, %v, Len %d", i-99, d, err, b.Len())
		}
	}
	if l := b.Between(-1, -1); len(l) != 100 || l[0] != 3*api.MaxBag-99 || l[99] != 3*api.MaxBag {
		t.Errorf("what is left: %v", l)
	}
}

func TestP6_4Double(t *testing.T) {
	st := api.Mail{Next: 20, List: []api.Datagram{{Number: 1, From: 1, To: 2, Body: "a"}, {Number: 5, From: -1, To: -1, Body: "\xff"}, {Number: 9, From: 3, To: 3}, {Number: 19, From: 2, To: 1, Body: "e"}, {Number: 20, From: least, To: greatest}}}
	for _, d := range st.List {
		b, want := of(t, st), deep(st)
		for i := range int64(3) {
			if n, err := b.Double(d.Number); n != 21+i || err != api.OK {
				t.Errorf("Double(%d) = %d, %v", d.Number, n, err)
			}
			want.Next++
			want.List = append(want.List, api.Datagram{Number: want.Next, From: d.From, To: d.To, Body: d.Body})
			is(t, "behind Double", b, want)
		}
		if n, err := b.Double(23); n != 24 || err != api.OK {
			t.Errorf("Double of what was doubled = %d, %v", n, err)
		}
		if got, err := b.Take(24); got != (api.Datagram{Number: 24, From: d.From, To: d.To, Body: d.Body}) || err != api.OK {
			t.Errorf("Take of what was doubled twice = %#v, %v", got, err)
		}
	}
	b := of(t, st)
	for _, n := range append(oddNumbers(), 18, 21) {
		if slices.ContainsFunc(st.List, func(d api.Datagram) bool { return d.Number == n }) {
			continue
		}
		if got, err := b.Double(n); got != 0 || err != api.ErrNumber {
			t.Errorf("Double(%d) = %d, %v", n, got, err)
		}
	}
	is(t, "behind numbers that no packet has", b, st)
}

// A packet between a pair that is severed is on its way (Of may give one), but is not doubled.
func TestP6_4Lost(t *testing.T) {
	st := api.Mail{Next: 3, List: []api.Datagram{{Number: 1, From: 1, To: 2}, {Number: 2, From: 2, To: 1}, {Number: 3, From: 2, To: 2}}, Severed: links(1, 2)}
	b := of(t, st)
	for _, number := range []int64{1, 2} {
		if n, err := b.Double(number); n != 0 || err != api.ErrLost {
			t.Errorf("Double(%d) = %d, %v", number, n, err)
		}
	}
	is(t, "behind Double", b, st)
	if n, err := b.Double(3); n != 4 || err != api.OK {
		t.Errorf("Double(3) = %d, %v", n, err)
	}
	if !b.Mend(2, 1) {
		t.Error("Mend")
	}
	if n, err := b.Double(1); n != 5 || err != api.OK {
		t.Errorf("Double behind Mend = %d, %v", n, err)
	}
}

func TestP6_5Between(t *testing.T) {
	nodes := oddNodes()
	var st api.Mail
	for _, from := range nodes {
		for _, to := range nodes {
			st.Next += 2
			st.List = append(st.List, api.Datagram{Number: st.Next, From: from, To: to}, api.Datagram{Number: st.Next + 1, From: to, To: from})
		}
	}
	st.Next += 7
	b, m := of(t, st), model{st}
	for _, from := range append(nodes, 3, 1<<33) {
		for _, to := range append(nodes, 3, 1<<33) {
			if got, want := b.Between(from, to), m.between(from, to); !slices.Equal(got, want) || !slices.IsSorted(got) {
				t.Errorf("Between(%d, %d) = %v, want %v", from, to, got, want)
			}
		}
	}
	if l := b.Between(-1, -1); len(l) != len(st.List) {
		t.Errorf("Between any: %d of %d", len(l), len(st.List))
	}
	is(t, "behind Between", b, st)
	if l := New().Between(-1, -1); len(l) != 0 {
		t.Errorf("Between of none: %v", l)
	}
}

func TestP6_5MemoryOfItsOwn(t *testing.T) {
	st := api.Mail{Next: 9, List: numbered(1, 3, 9)}
	b := of(t, st)
	first, again := b.Between(1, 2), b.Between(1, 2)
	all := first[:cap(first)]
	for i := range all {
		all[i] = 7
	}
	if !slices.Equal(again, []int64{1, 3, 9}) || !slices.Equal(b.Between(-1, -1), again) {
		t.Errorf("answers of Between share memory: %v", again)
	}
	b.Forget(2)
	b.Put(1, 2, "")
	if !slices.Equal(again, []int64{1, 3, 9}) {
		t.Errorf("what Between gave became %v", again)
	}
	is(t, "behind it", b, api.Mail{Next: 10, List: []api.Datagram{{Number: 10, From: 1, To: 2}}})
}

// among are packets between all of some nodes, each way and to themselves, each twice.
func among(nodes ...int) api.Mail {
	var st api.Mail
	for range 2 {
		for _, from := range nodes {
			for _, to := range nodes {
				st.Next++
				st.List = append(st.List, api.Datagram{Number: st.Next, From: from, To: to, Body: "a"})
			}
		}
	}
	return st
}

func TestP6_6Sever(t *testing.T) {
	nodes := oddNodes()
	st := among(nodes...)
	for _, x := range nodes {
		for _, y := range nodes {
			b := of(t, st)
			want := deep(st)
			count := 0
			if x != y {
				count = 4
				want.Severed = links(min(x, y), max(x, y))
				want.List = slices.DeleteFunc(want.List, func(d api.Datagram) bool {
					return d.From == x && d.To == y || d.From == y && d.To == x
				})
			}
			if n := b.Sever(x, y); n != count {
				t.Fatalf("Sever(%d, %d) = %d, want %d", x, y, n, count)
			}
			is(t, "behind Sever", b, want)
			if n, m := b.Sever(x, y), b.Sever(y, x); n != 0 || m != 0 {
				t.Fatalf("Sever(%d, %d) again = %d, %d", x, y, n, m)
			}
			is(t, "behind Sever again", b, want)
		}
	}
}

// What Of gave between a pair that is severed is lost when that is severed again.
func TestP6_6SeverAgain(t *testing.T) {
	st := among(-1, 1, 2)
	st.Severed = links(-1, 2, 1, 2)
	heldToModel(t, st, call{do: doSever, a: 2, b: 1}, call{do: doSever, a: 2, b: 1}, call{do: doSever, a: -1, b: 2}, call{do: doSever, a: 1, b: 1}, call{do: doSever, a: -1, b: 1})
}

func TestP6_6Mend(t *testing.T) {
	nodes := oddNodes()
	for _, x := range nodes {
		for _, y := range nodes {
			if New().Mend(x, y) {
				t.Fatalf("Mend(%d, %d) of none", x, y)
			}
			b := of(t, api.Mail{Next: 3, List: numbered(1, 3), Severed: links(-1, 1, 1, 2)})
			was := b.Mend(x, y)
			if want := min(x, y) == -1 && max(x, y) == 1 || min(x, y) == 1 && max(x, y) == 2; was != want {
				t.Fatalf("Mend(%d, %d) = %v", x, y, was)
			}
			b = New()
			b.Sever(x, y)
			kept := b.State()
			for _, v := range nodes {
				for _, w := range nodes {
					mine := v == x && w == y || v == y && w == x
					if !mine && b.Mend(v, w) {
						t.Fatalf("%d and %d severed: Mend(%d, %d)", x, y, v, w)
					}
				}
			}
			is(t, "behind Mend of others", b, kept)
			if b.Mend(y, x) != (x != y) || b.Mend(x, y) || b.Mend(y, x) {
				t.Fatalf("Mend of %d and %d", x, y)
			}
			is(t, "behind Mend", b, api.Mail{})
			if n, err := b.Put(x, y, "a"); n != 1 || err != api.OK {
				t.Fatalf("Put(%d, %d) behind Mend: %d, %v", x, y, n, err)
			}
		}
	}
}

// Mend touches no packet.
func TestP6_6MendLeavesPackets(t *testing.T) {
	st := among(1, 2)
	st.Severed = links(1, 2)
	b := of(t, st)
	if !b.Mend(1, 2) {
		t.Error("Mend")
	}
	st.Severed = nil
	is(t, "behind Mend", b, st)
}

func TestP6_7Forget(t *testing.T) {
	nodes := oddNodes()
	st := among(nodes...)
	st.Severed = links(-1, 2, 0, 5)
	for _, to := range nodes {
		b, want := of(t, st), deep(st)
		want.List = slices.DeleteFunc(want.List, func(d api.Datagram) bool { return d.To == to })
		if n := b.Forget(to); n != 2*len(nodes) {
			t.Errorf("Forget(%d) = %d", to, n)
		}
		is(t, "behind Forget", b, want)
		if n := b.Forget(to); n != 0 {
			t.Errorf("Forget(%d) again = %d", to, n)
		}
		is(t, "behind Forget again", b, want)
		if n, err := b.Put(to, to, "a"); n != st.Next+1 || err != api.OK {
			t.Errorf("Put behind Forget: %d, %v", n, err)
		}
	}
	b := of(t, st)
	if n := b.Forget(1 << 33); n != 0 {
		t.Errorf("Forget of a node without packets = %d", n)
	}
	is(t, "behind Forget of a node without packets", b, st)
}

func TestP6_8Len(t *testing.T) {
	b := New()
	for i, c := range []struct {
		call call
		want int
	}{
		{call{do: doPut, a: 1, b: 2}, 1}, {call{do: doPut, a: 2, b: 1}, 2}, {call{do: doPut, a: 3, b: 3}, 3}, {call{do: doDouble, number: 1}, 4},
		{call{do: doBetween, a: -1, b: -1}, 4}, {call{do: doTake, number: 1}, 3}, {call{do: doTake, number: 1}, 3}, {call{do: doDouble, number: 1}, 3},
		{call{do: doSever, a: 1, b: 2}, 1}, {call{do: doPut, a: 1, b: 2}, 1}, {call{do: doMend, a: 1, b: 2}, 1}, {call{do: doPut, a: 1, b: 2}, 2}, {call{do: doForget, a: 3}, 1}, {call{do: doForget, a: 3}, 1}, {call{do: doForget, a: 2}, 0},
	} {
		c.call.onBag(b)
		if n := b.Len(); n != c.want {
			t.Errorf("behind call %d: Len %d, want %d", i, n, c.want)
		}
	}
}

// A bag that neither New nor Of gave.
func TestNoBag(t *testing.T) {
	for _, b := range []*Bag{nil, {}, new(Bag)} {
		for round := range 3 {
			for _, x := range oddNodes() {
				for _, y := range oddNodes() {
					if n, err := b.Put(x, y, "a"); n != 0 || err != api.ErrFull {
						t.Fatalf("Put: %d, %v", n, err)
					}
					if n := b.Sever(x, y); n != 0 {
						t.Fatalf("Sever: %d", n)
					}
					if n, err := b.Put(x, y, "a"); n != 0 || err != api.ErrFull {
						t.Fatalf("Put behind Sever: %d, %v", n, err)
					}
					if b.Mend(x, y) {
						t.Fatal("Mend")
					}
					if l := b.Between(x, y); len(l) != 0 {
						t.Fatalf("Between: %v", l)
					}
				}
				if n := b.Forget(x); n != 0 {
					t.Fatalf("Forget: %d", n)
				}
			}
			for _, n := range oddNumbers() {
				if d, err := b.Take(n); d != (api.Datagram{}) || err != api.ErrNumber {
					t.Fatalf("Take: %#v, %v", d, err)
				}
				if m, err := b.Double(n); m != 0 || err != api.ErrFull {
					t.Fatalf("Double: %d, %v", m, err)
				}
			}
			if st := b.State(); b.Len() != 0 || !same(st, api.Mail{}) {
				t.Fatalf("round %d: Len %d, %#v", round, b.Len(), st)
			}
		}
	}
	if b, ok := Of(New().State()); !ok || b == nil {
		t.Error("the zero state is one")
	}
}

// Every row of few calls, on nodes that are few, held to the document's words.
func TestP6_2To8RowsOfCalls(t *testing.T) {
	calls := []call{
		{do: doPut, a: 1, b: 2, body: "a"}, {do: doPut, a: 2, b: 1, body: "b"}, {do: doPut, a: -1, b: 2, body: "c"}, {do: doPut, a: 1, b: 1},
		{do: doTake, number: 1}, {do: doTake, number: 2}, {do: doDouble, number: 1}, {do: doDouble, number: 2}, {do: doTake, number: 3},
		{do: doSever, a: 1, b: 2}, {do: doSever, a: 2, b: -1}, {do: doMend, a: 2, b: 1}, {do: doForget, a: 2}, {do: doForget, a: -1}, {do: doBetween, a: -1, b: 2},
	}
	n := len(calls)
	for x := range n * n * n * n {
		heldToModel(t, api.Mail{}, calls[x%n], calls[x/n%n], calls[x/n/n%n], calls[x/n/n/n])
	}
}

func TestP6_2To8ManyCalls(t *testing.T) {
	for seed := range int64(300) {
		r := rand.New(rand.NewSource(seed))
		nodes := pick(r, []int{0, 1, 2}, []int{-1, 0, 1, 15}, oddNodes())
		st := drawnState(r, nodes)
		m := model{deep(st)}
		var calls []call
		for range 150 {
			c := drawnCall(r, m.st, nodes)
			c.onModel(&m)
			calls = append(calls, c)
		}
		heldToModel(t, st, calls...)
	}
}

// P6.9: each packet that was put or doubled is at the end taken, forgotten, lost or on its way, and that once; what is taken is what was put.
func TestP6_9NoneOfItself(t *testing.T) {
	for seed := range int64(200) {
		r := rand.New(rand.NewSource(1000 + seed))
		nodes := []int{-1, 0, 1, 2}
		b := New()
		put := map[int64]api.Datagram{}
		gone := 0
		for range 300 {
			st := b.State()
			c := drawnCall(r, st, nodes)
			x := c.onBag(b)
			switch {
			case c.do == doPut && x.err == api.OK:
				put[x.number] = api.Datagram{Number: x.number, From: c.a, To: c.b, Body: c.body}
			case c.do == doDouble && x.err == api.OK:
				d := put[c.number]
				d.Number = x.number
				put[x.number] = d
			case c.do == doTake && x.err == api.OK:
				if d, ok := put[c.number]; !ok || d != x.packet {
					t.Fatalf("Take(%d) = %#v, but %#v was put", c.number, x.packet, d)
				}
				delete(put, c.number)
			case c.do == doSever || c.do == doForget:
				n := 0
				for number, d := range put {
					if c.do == doForget && d.To == c.a || c.do == doSever && c.a != c.b && (d.From == c.a && d.To == c.b || d.From == c.b && d.To == c.a) {
						n++
						delete(put, number)
					}
				}
				if n != x.count {
					t.Fatalf("%#v: %d, want %d", c, x.count, n)
				}
				gone += n
			}
			st = b.State()
			if len(st.List) != len(put) {
				t.Fatalf("%#v: %d are on their way, want %d", c, len(st.List), len(put))
			}
			for _, d := range st.List {
				if put[d.Number] != d {
					t.Fatalf("%#v: %#v is on its way, but %#v was put", c, d, put[d.Number])
				}
			}
		}
		if gone == 0 {
			t.Errorf("seed %d: nothing was lost", seed)
		}
	}
}

// P6.10: at every moment the bag of the state goes on as the bag itself, and neither touches the other one.
func TestP6_10GoesOn(t *testing.T) {
	for seed := range int64(60) {
		r := rand.New(rand.NewSource(2000 + seed))
		nodes := pick(r, []int{-1, 0, 1, 2}, oddNodes())
		first := New()
		bags := []*Bag{first}
		for range 60 {
			bags = append(bags, of(t, first.State()))
			c := drawnCall(r, first.State(), nodes)
			var want told
			for i, b := range bags {
				got := c.onBag(b)
				if i == 0 {
					want = got
				}
				if got != want {
					t.Fatalf("%#v: bag %d tells %#v, the first one %#v", c, i, got, want)
				}
			}
			st := first.State()
			for i, b := range bags {
				if !same(b.State(), st) || b.Len() != len(st.List) {
					t.Fatalf("%#v: bag %d is %#v, the first one %#v", c, i, b.State(), st)
				}
			}
		}
	}
}

func TestP6_11NumbersAreNeverGivenTwice(t *testing.T) {
	for seed := range int64(100) {
		r := rand.New(rand.NewSource(3000 + seed))
		nodes := []int{-1, 0, 1}
		b := New()
		last, given := int64(0), 0
		for range 300 {
			if r.Intn(10) == 0 {
				b = of(t, b.State())
			}
			c := drawnCall(r, b.State(), nodes)
			x := c.onBag(b)
			if c.do != doPut && c.do != doDouble || x.err != api.OK {
				continue
			}
			if x.number != last+1 {
				t.Fatalf("%#v: %d behind %d", c, x.number, last)
			}
			last = x.number
			given++
		}
		if given < 50 || b.State().Next != last {
			t.Errorf("%d numbers, the last one %d, Next %d", given, last, b.State().Next)
		}
	}
}
