package topo

import (
	"math"
	"slices"
	"testing"

	"eddy/api"
)

// roomy is the same list with room behind its end, in which numbers of nodes lie.
func roomy(want []int) []int {
	return append(slices.Clone(want), 8, 9, 10, 5)[:len(want)]
}

// whole is all that lies in a list and in its spare room.
func whole(want []int) []int { return slices.Clone(want[:cap(want)]) }

// spoil writes over all that lies in a list and in its spare room.
func spoil(want []int) {
	for i := range want[:cap(want)] {
		want[:cap(want)][i] = -7
	}
}

// calls are all calls that a list comes out of, at the first place.
func calls() map[string]func(want []int) []int {
	link := func(v int) func(want []int) []int {
		return func(want []int) []int { return ring{3, want, 0}.link(v).want }
	}
	unlink := func(v int) func(want []int) []int {
		return func(want []int) []int { return ring{3, want, 0}.unlink(v).want }
	}
	turns := func(n int) func(want []int) []int {
		return func(want []int) []int { return ring{3, want, 0}.turns(n) }
	}
	return map[string]func(want []int) []int{
		"Link one more": link(2), "Link itself": link(3), "Link what is wanted": link(1), "Link no node": link(16), "Link one that lies behind": link(8),
		"Unlink the first": unlink(5), "Unlink one": unlink(1), "Unlink the last": unlink(7), "Unlink none": unlink(2), "Unlink one that lies behind": unlink(8),
		"Turns, none": turns(0), "Turns, one": turns(1), "Turns, three": turns(3), "Turns, many": turns(70),
	}
}

// given are the lists that the calls are handed: of none, of one, of some and of MaxDegree.
func given() [][]int {
	return [][]int{nil, {}, {5}, {1}, {5, 1, 7}, {5, 1, 7, 0, 15}, {5, 0, 1, 14, 15, 7}}
}

func TestWhatIsHandedInStays(t *testing.T) {
	for name, call := range calls() {
		for _, l := range given() {
			in := roomy(l)
			was := whole(in)
			out := call(in)
			if !slices.Equal(whole(in), was) {
				t.Errorf("%s of %v: what was handed in is %v, was %v", name, l, whole(in), was)
			}
			keep := slices.Clone(out)
			spoil(in)
			if !slices.Equal(out, keep) {
				t.Errorf("%s of %v: the answer hangs on what was handed in: %v, was %v", name, l, out, keep)
			}
		}
	}
}

// Calls that tell no list change none as well.
func TestWhatIsReadStays(t *testing.T) {
	for _, l := range given() {
		in := roomy(l)
		was := whole(in)
		for _, v := range anyNumbers() {
			Has(in, v)
			for turn := range max(len(in), 1) {
				Fit(3, in, turn)
				Next(in, turn)
				Wait(in, turn, v)
			}
		}
		if !slices.Equal(whole(in), was) {
			t.Errorf("what was handed in is %v, was %v", whole(in), was)
		}
	}
}

func TestWhatComesOutIsNewMemory(t *testing.T) {
	for name, call := range calls() {
		for _, l := range given() {
			in := roomy(l)
			was := whole(in)
			out, again := call(in), call(in)
			keep := slices.Clone(again)
			spoil(out)
			if !slices.Equal(whole(in), was) {
				t.Errorf("%s of %v: writing over the answer changes what was handed in: %v, was %v", name, l, whole(in), was)
			}
			if !slices.Equal(again, keep) || !slices.Equal(call(in), keep) {
				t.Errorf("%s of %v: writing over one answer changes another one", name, l)
			}
		}
	}
}

// What lies in spare room plays no part: all answers are those to lists without any; nil and empty are the same.
func TestSpareRoomPlaysNoPart(t *testing.T) {
	for _, l := range given() {
		right(t, ring{3, roomy(l), max(len(l), 1) - 1})
		right(t, ring{3, slices.Clip(slices.Clone(l)), max(len(l), 1) - 1})
		for name, call := range calls() {
			if got, want := call(roomy(l)), call(slices.Clip(slices.Clone(l))); !slices.Equal(got, want) {
				t.Errorf("%s of %v: %v, want %v", name, l, got, want)
			}
		}
	}
}

// A list that is gone on with in two ways keeps both apart.
func TestTwoWaysOn(t *testing.T) {
	l, _ := Link(3, []int{5}, 1)
	a, _ := Link(3, l, 7)
	b, _ := Link(3, l, 8)
	c, _, _ := Unlink(a, 0, 5)
	if !slices.Equal(l, []int{5, 1}) || !slices.Equal(a, []int{5, 1, 7}) || !slices.Equal(b, []int{5, 1, 8}) || !slices.Equal(c, []int{1, 7}) {
		t.Errorf("%v %v %v %v", l, a, b, c)
	}
}

// Every call ends and none panics, at all arguments; errors are those that the chapter names, with the list and the turn
// as they were.
func TestNothingPanics(t *testing.T) {
	d := newDice(1)
	numbers := append(anyNumbers(), 3, 4, 5, 6, 7)
	counts := []int{math.MinInt, -1, 0, 1, 7, 100}
	pick := func() int { return numbers[d.Intn(len(numbers))] }
	for range 20000 {
		r := ring{id: pick(), turn: pick()}
		for range d.Intn(12) {
			r.want = append(r.want, pick())
		}
		was, v := slices.Clone(r.want), pick()
		if d.Intn(2) == 0 && len(r.want) > 0 {
			v = r.want[d.Intn(len(r.want))]
		}
		r.fit()
		r.next()
		r.wait(v)
		if n := len(r.turns(counts[d.Intn(len(counts))])); n > 100 {
			t.Fatalf("%+v: %d turns", r, n)
		}
		l, c := r.link(v), r.unlink(v)
		if l.err != api.OK && !slices.Equal(l.want, was) || l.err != api.OK && (l.err < api.ErrNode || l.err > api.ErrDegree) {
			t.Fatalf("Link of %+v, %d: %v", r, v, l)
		}
		if Has(r.want, v) == (c.err == api.ErrNone) || c.err != api.OK && !c.same(cut{was, r.turn, api.ErrNone}) {
			t.Fatalf("Unlink of %+v, %d: %v", r, v, c)
		}
		if !slices.Equal(r.want, was) {
			t.Fatalf("an unfit list is changed: %v, was %v", r.want, was)
		}
	}
}

// Turns without an end are cut off for unfit lists as for others, and a list of very many is gone through as well.
func TestUnfitOnesEnd(t *testing.T) {
	long := make([]int, 300000)
	long[len(long)-1] = 5
	for _, turn := range anyNumbers() {
		for _, n := range []int{0, 1, 100001, math.MaxInt} {
			if got := len(Turns(long, turn, n)); got > 100000 {
				t.Errorf("turn %d, %d times: %d turns", turn, n, got)
			}
		}
		Wait(long, turn, 5)
		Wait(long, turn, 6)
		Next(long, turn)
		Fit(3, long, turn)
		Unlink(long, turn, 5)
	}
	if _, err := Link(3, long, 6); err != api.ErrDegree {
		t.Errorf("%v", err)
	}
}
