package plan

import (
	"fmt"
	"math"
	"reflect"
	"slices"
	"testing"

	"eddy/api"
)

// roomy is a list with room behind it, in which something lies.
func roomy[T any](l []T, odd ...T) []T {
	return append(append(make([]T, 0, len(l)+len(odd)), l...), odd...)[:len(l)]
}

// strange is what may lie behind pairs: ones that would change every answer.
func strange() []api.Link { return []api.Link{{A: 0, B: 1}, {A: 14, B: 15}, {A: -1, B: 99}} }

// whole is what a list has, and what lies in its spare room.
func whole[T any](l []T) string { return fmt.Sprint(len(l), l[:cap(l)]) }

// lists are the answers of all functions that are lists, with their names.
func lists(n int, l []api.Link, from int, inputs []int64) map[string]any {
	drawn, _ := Links(api.ShRandom, n, from)
	return map[string]any{
		"Links": drawn, "Distances": Distances(n, l, from), "Parts": Parts(n, l), "Script": Script(n, l, "m", api.KMean, 1, inputs),
	}
}

// answers are those of all functions.
func answers(n int, l []api.Link, from int, inputs []int64) map[string]any {
	all := lists(n, l, from, inputs)
	all["Fit"], all["Degree"], all["Width"], all["Random"] = Fit(n, l), Degree(l, from), Width(n, l), Random(uint64(from), n)
	return all
}

// networks hands out fit ones, and what may be asked of them.
func networks(do func(n int, l []api.Link, from int, inputs []int64)) {
	d := newDice(20)
	for range 400 {
		n := d.nodes()
		do(n, d.drawn(n), d.Intn(n+2)-1, d.inputs(d.Intn(19)))
	}
	for n := 1; n <= 16; n++ {
		do(n, nil, 0, nil)
	}
}

func TestWhatIsHandedInStays(t *testing.T) {
	networks(func(n int, l []api.Link, from int, inputs []int64) {
		l, inputs = roomy(l, strange()...), roomy(inputs, 7, 8)
		was := whole(l) + whole(inputs)
		answers(n, l, from, inputs)
		if now := whole(l) + whole(inputs); now != was {
			t.Fatalf("what was handed in is %s, was %s", now, was)
		}
	})
}

// What lies in spare room plays no part, and one answer twice is the same.
func TestSpareRoomPlaysNoPart(t *testing.T) {
	networks(func(n int, l []api.Link, from int, inputs []int64) {
		want := answers(n, slices.Clip(l), from, slices.Clip(inputs))
		for call, x := range answers(n, roomy(l, strange()...), from, roomy(inputs, 7, 8)) {
			same(t, call, x, want[call])
		}
		for call, x := range answers(n, l, from, inputs) {
			same(t, call+" once more", x, want[call])
		}
	})
}

func TestEmptyLists(t *testing.T) {
	for n := range 18 {
		want := answers(n, nil, 0, nil)
		for call, x := range answers(n, []api.Link{}, 0, []int64{}) {
			same(t, call, x, want[call])
		}
	}
}

// What is written into an answer, and behind it, changes neither what was handed in nor another answer.
func TestWhatComesOutIsNewMemory(t *testing.T) {
	networks(func(n int, l []api.Link, from int, inputs []int64) {
		l, inputs = roomy(l, strange()...), roomy(inputs, 7, 8)
		was := whole(l) + whole(inputs)
		first, second, third := lists(n, l, from, inputs), lists(n, l, from, inputs), lists(n, l, from, inputs)
		for _, x := range first {
			scrawl(reflect.ValueOf(x))
		}
		if now := whole(l) + whole(inputs); now != was {
			t.Fatalf("what was handed in is %s, was %s", now, was)
		}
		for call, x := range second {
			same(t, call, x, third[call])
		}
		for call, x := range lists(n, l, from, inputs) {
			same(t, call+" once more", x, third[call])
		}
	})
}

// scrawl lets all that a list has be zero, in its spare room too.
func scrawl(v reflect.Value) {
	for i := range v.Cap() {
		x := v.Slice(0, v.Cap()).Index(i)
		x.Set(reflect.Zero(x.Type()))
	}
}

// Every call ends and none panics, at all arguments; what is not fit is left as it was, too.
func TestNothingPanics(t *testing.T) {
	d := newDice(21)
	numbers := []int{math.MinInt, math.MinInt + 1, -1 << 32, -17, -1, 0, 1, 2, 3, 15, 16, 17, 18, 99, 1 << 32, 1 << 62, math.MaxInt - 1, math.MaxInt}
	for range 3000 {
		n := d.nodes()
		l := d.drawn(n)
		for range 1 + d.Intn(4) {
			l = d.odd(l)
		}
		if d.often(1, 2) {
			n = pick(d, numbers)
		}
		l = roomy(l, strange()...)
		was := whole(l)
		answers(n, l, pick(d, numbers), d.inputs(d.Intn(20)))
		if whole(l) != was {
			t.Fatalf("an unfit one is changed: %v", l)
		}
	}
	for _, n := range numbers {
		for _, k := range numbers {
			answers(n, nil, k, []int64{1, 2})
			for _, shape := range append(numbers, kinds()...) {
				if l, err := Links(shape, n, k); err != api.OK && len(l) != 0 {
					t.Fatalf("Links(%d, %d, %d) are %v beside %v", shape, n, k, l, err)
				}
			}
		}
	}
}
