package bag

import (
	"math"
	"math/rand"
	"slices"
	"testing"

	"eddy/api"
)

// numbered are packets from 1 to 2 with these Numbers.
func numbered(numbers ...int64) []api.Datagram {
	var l []api.Datagram
	for _, n := range numbers {
		l = append(l, api.Datagram{Number: n, From: 1, To: 2, Body: "a"})
	}
	return l
}

// row are n packets, with Numbers from 1 on.
func row(n int) []api.Datagram {
	l := make([]api.Datagram, n)
	for i := range l {
		l[i] = api.Datagram{Number: int64(i) + 1, From: i % 7, To: i % 5, Body: "b"}
	}
	return l
}

func links(nodes ...int) []api.Link {
	var l []api.Link
	for i := 0; i+1 < len(nodes); i += 2 {
		l = append(l, api.Link{A: nodes[i], B: nodes[i+1]})
	}
	return l
}

type stateCase struct {
	name string
	st   api.Mail
	want bool
}

// stateCases are states at the edges, and states that are not fit in one respect alone.
func stateCases() []stateCase {
	const most = 1 << 62
	return []stateCase{
		{"the zero state", api.Mail{}, true},
		{"empty lists", api.Mail{List: []api.Datagram{}, Severed: []api.Link{}}, true},
		{"Next at 1", api.Mail{Next: 1}, true},
		{"Next at its most less 1", api.Mail{Next: most - 1}, true},
		{"Next at its most", api.Mail{Next: most}, true},
		{"Next beyond its most", api.Mail{Next: most + 1}, false},
		{"Next at the greatest", api.Mail{Next: math.MaxInt64}, false},
		{"Next below 0", api.Mail{Next: -1}, false},
		{"Next at the least", api.Mail{Next: math.MinInt64}, false},

		{"a Number at 1 and at Next", api.Mail{Next: 1, List: numbered(1)}, true},
		{"a Number 0", api.Mail{Next: 1, List: numbered(0)}, false},
		{"a Number 0, and Next 0", api.Mail{Next: 0, List: numbered(0)}, false},
		{"a Number beyond Next", api.Mail{Next: 1, List: numbered(2)}, false},
		{"a Number beyond Next 0", api.Mail{Next: 0, List: numbered(1)}, false},
		{"a Number below 0", api.Mail{Next: 9, List: numbered(-1)}, false},
		{"the least Number", api.Mail{Next: 9, List: numbered(math.MinInt64)}, false},
		{"the greatest Number", api.Mail{Next: most, List: numbered(math.MaxInt64)}, false},
		{"a Number at the most", api.Mail{Next: most, List: numbered(most)}, true},
		{"a Number at the most less 1", api.Mail{Next: most, List: numbered(most - 1)}, true},
		{"a Number beyond the most", api.Mail{Next: most, List: numbered(most + 1)}, false},
		{"Numbers that rise", api.Mail{Next: 9, List: numbered(1, 2, 5, 9)}, true},
		{"a last Number beyond Next", api.Mail{Next: 8, List: numbered(1, 2, 5, 9)}, false},
		{"a first Number 0", api.Mail{Next: 9, List: numbered(0, 2, 5, 9)}, false},
		{"a first Number below 0", api.Mail{Next: 9, List: numbered(-5, 2, 5, 9)}, false},
		{"a Number twice", api.Mail{Next: 9, List: numbered(1, 2, 2, 9)}, false},
		{"the first Number twice", api.Mail{Next: 9, List: numbered(1, 1, 2)}, false},
		{"the last Number twice", api.Mail{Next: 9, List: numbered(1, 2, 9, 9)}, false},
		{"Numbers that fall at the end", api.Mail{Next: 9, List: numbered(1, 5, 9, 8)}, false},
		{"Numbers that fall at the beginning", api.Mail{Next: 9, List: numbered(2, 1, 5, 9)}, false},
		{"a Number between that is beyond Next", api.Mail{Next: 9, List: numbered(1, 10, 5)}, false},
		{"a Number between that is below 1", api.Mail{Next: 9, List: numbered(1, -10, 5)}, false},
		{"packets of every sort", api.Mail{Next: 9, List: []api.Datagram{{Number: 1, From: -1, To: -1}, {Number: 2, From: least, To: greatest, Body: "\xff\x00"}, {Number: 9, From: 3, To: 3}}}, true},

		{"one less than the most packets", api.Mail{Next: api.MaxBag, List: row(api.MaxBag - 1)}, true},
		{"the most packets", api.Mail{Next: api.MaxBag, List: row(api.MaxBag)}, true},
		{"the most packets, and a far Next", api.Mail{Next: most, List: row(api.MaxBag)}, true},
		{"one packet too many", api.Mail{Next: api.MaxBag + 1, List: row(api.MaxBag + 1)}, false},
		{"twice as many packets", api.Mail{Next: most, List: row(2 * api.MaxBag)}, false},

		{"a pair", api.Mail{Severed: links(1, 2)}, true},
		{"a pair of any nodes", api.Mail{Severed: links(least, greatest)}, true},
		{"a pair with -1", api.Mail{Severed: links(-1, 0)}, true},
		{"a pair below 0", api.Mail{Severed: links(-2, -1)}, true},
		{"a pair of one node", api.Mail{Severed: links(1, 1)}, false},
		{"a pair of node 0", api.Mail{Severed: links(0, 0)}, false},
		{"a pair of -1", api.Mail{Severed: links(-1, -1)}, false},
		{"a pair turned round", api.Mail{Severed: links(2, 1)}, false},
		{"a pair of any nodes turned round", api.Mail{Severed: links(greatest, least)}, false},
		{"pairs rising by A", api.Mail{Severed: links(1, 5, 2, 4, 3, 9)}, true},
		{"pairs rising by B", api.Mail{Severed: links(1, 2, 1, 3, 1, 9)}, true},
		{"pairs rising by A, falling by B", api.Mail{Severed: links(1, 9, 2, 3)}, true},
		{"pairs far apart", api.Mail{Severed: links(least, least+1, least, greatest, greatest-1, greatest)}, true},
		{"pairs falling by A", api.Mail{Severed: links(2, 3, 1, 9)}, false},
		{"pairs falling by B", api.Mail{Severed: links(1, 3, 1, 2)}, false},
		{"a pair twice", api.Mail{Severed: links(1, 2, 1, 2)}, false},
		{"a pair twice, another one between", api.Mail{Severed: links(1, 2, 1, 3, 1, 2)}, false},
		{"the last pair twice", api.Mail{Severed: links(1, 2, 1, 3, 1, 3)}, false},
		{"a later pair of one node", api.Mail{Severed: links(1, 2, 3, 3)}, false},
		{"a later pair turned round", api.Mail{Severed: links(1, 2, 3, 1)}, false},
		{"a pair and itself turned round", api.Mail{Severed: links(1, 2, 2, 1)}, false},
		{"a first pair turned round", api.Mail{Severed: links(1, 0, 2, 3)}, false},
		{"pairs falling far apart", api.Mail{Severed: links(greatest-1, greatest, least, greatest)}, false},

		{"packets between a pair that is severed", api.Mail{Next: 4, List: numbered(2, 3), Severed: links(1, 2)}, true},
		{"wrong in all", api.Mail{Next: -1, List: numbered(2, 2), Severed: links(2, 1)}, false},
		{"right packets, a wrong pair", api.Mail{Next: 4, List: numbered(2, 3), Severed: links(2, 1)}, false},
		{"a wrong packet, right pairs", api.Mail{Next: 4, List: numbered(3, 2), Severed: links(1, 2)}, false},
	}
}

func TestP6_1New(t *testing.T) {
	b := New()
	if b == nil {
		t.Fatal("New is nil")
	}
	is(t, "New", b, api.Mail{})
	if n, err := b.Put(1, 2, "a"); n != 1 || err != api.OK {
		t.Errorf("the first Put: %d, %v", n, err)
	}
	is(t, "another New", New(), api.Mail{})
}

func TestP6_1Of(t *testing.T) {
	for _, c := range stateCases() {
		if fitByWords(c.st) != c.want && len(c.st.List) < 100 {
			t.Fatalf("%s is wrongly told", c.name)
		}
		kept := deep(c.st)
		b, ok := Of(c.st)
		if ok != c.want || (b != nil) != c.want {
			t.Errorf("%s: Of = %v, %v", c.name, b != nil, ok)
			continue
		}
		if !same(c.st, kept) {
			t.Errorf("%s was changed", c.name)
		}
		if ok {
			is(t, c.name, b, kept)
			is(t, c.name+", asked again", b, kept)
		}
	}
}

// All states with few packets and pairs, of small numbers.
func TestP6_1OfSmallStates(t *testing.T) {
	var numbers [][]int64
	for n := range 7 * 7 * 7 {
		a, b, c := int64(n%7)-1, int64(n/7%7)-1, int64(n/49)-1
		numbers = append(numbers, []int64{a, b, c}, []int64{a, b}, []int64{a})
	}
	fit := 0
	for next := int64(-1); next < 6; next++ {
		for _, l := range numbers {
			st := api.Mail{Next: next, List: numbered(l...)}
			_, ok := Of(st)
			if ok != fitByWords(st) {
				t.Fatalf("Of(%#v): %v", st, ok)
			}
			if ok {
				fit++
			}
		}
	}
	for n := range 1 << 12 {
		st := api.Mail{Severed: links(n%4-1, n>>2%4-1, n>>4%4-1, n>>6%4-1, n>>8%4-1, n>>10-1)}
		_, ok := Of(st)
		if ok != fitByWords(st) {
			t.Fatalf("Of(%#v): %v", st, ok)
		}
		if ok {
			fit++
		}
	}
	if fit < 100 {
		t.Errorf("only %d are fit", fit)
	}
}

// Of a state that is not fit nothing but that is told, whatever else is wrong with it.
func TestP6_1OfManyWrongsAtOnce(t *testing.T) {
	r := rand.New(rand.NewSource(1))
	fit := 0
	for range 30000 {
		st := drawnState(r, []int{-1, 0, 1, 2})
		for range r.Intn(3) {
			switch r.Intn(5) {
			case 0:
				st.Next = pick(r, oddNumbers()...)
			case 1, 2:
				if len(st.List) > 0 {
					st.List[r.Intn(len(st.List))].Number = pick(r, append(oddNumbers(), st.Next, st.Next+1, st.List[0].Number)...)
				}
			case 3:
				if len(st.Severed) > 0 {
					st.Severed[r.Intn(len(st.Severed))] = api.Link{A: r.Intn(3), B: r.Intn(4)}
				}
			case 4:
				slices.Reverse(st.Severed)
			}
		}
		want := fitByWords(st)
		if want {
			fit++
		}
		if b, ok := Of(st); ok != want || (b != nil) != want || ok && !same(b.State(), st) {
			t.Fatalf("Of(%#v) = %#v, %v", st, b, ok)
		}
	}
	if fit < 3000 || fit > 27000 {
		t.Errorf("%d of 30000 are fit", fit)
	}
}

// scrawl writes over a state's lists and their spare room.
func scrawl(st api.Mail) {
	l, s := st.List[:cap(st.List)], st.Severed[:cap(st.Severed)]
	for i := range l {
		l[i] = api.Datagram{Number: -9, From: -9, To: -9, Body: "scrawled"}
	}
	for i := range s {
		s[i] = api.Link{A: 9, B: -9}
	}
}

func TestP6_1MemoryOfItsOwn(t *testing.T) {
	st := api.Mail{Next: 9, List: numbered(1, 3, 4, 9), Severed: links(-1, 4, 5, 6, 5, 7)}
	want := deep(st)
	b, other := of(t, st), of(t, st)
	scrawl(st)
	is(t, "behind a scrawl over what was handed to Of", b, want)
	first, again := b.State(), b.State()
	scrawl(first)
	if !same(again, want) {
		t.Errorf("answers of State share memory: %#v", again)
	}
	is(t, "behind a scrawl over what State gave", b, want)
	for range 20 {
		b.Put(1, 2, "more")
		b.Sever(8, 9+b.Len())
	}
	b.Take(3)
	b.Forget(2)
	b.Mend(5, 6)
	if !same(again, want) {
		t.Errorf("what State gave became %#v", again)
	}
	is(t, "another bag of the same state", other, want)
}

// What lies in the spare room of a state's lists plays no part, and stays.
func TestP6_1SpareRoom(t *testing.T) {
	list, severed := numbered(1, 3, 4, 9, 9, 2), links(-1, 4, 5, 6, 5, 6, 2, 1)
	keptList, keptSevered := slices.Clone(list), slices.Clone(severed)
	st := api.Mail{Next: 9, List: list[:3], Severed: severed[:2]}
	want := deep(st)
	b := of(t, st)
	is(t, "with spare room", b, want)
	b.Put(7, 8, "more")
	b.Sever(1, 9)
	b.Take(1)
	b.Forget(2)
	b.Mend(5, 6)
	if !slices.Equal(list, keptList) || !slices.Equal(severed, keptSevered) {
		t.Errorf("what was handed in became %#v, %#v", list, severed)
	}
}

// State tells pairs rising, in whatever order they were severed.
func TestP6_1StateRises(t *testing.T) {
	r := rand.New(rand.NewSource(2))
	for range 200 {
		b, m := New(), model{}
		for range r.Intn(40) {
			x, y := pick(r, oddNodes()...), pick(r, oddNodes()...)
			b.Sever(x, y)
			m.sever(x, y)
		}
		is(t, "severed pairs", b, m.st)
		if !fitByWords(b.State()) {
			t.Fatalf("%#v is not fit", b.State())
		}
	}
}
