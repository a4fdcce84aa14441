package miss

import (
	"math"
	"reflect"
	"slices"
	"testing"

	"eddy/api"
)

// roomy is the same half-edge with room behind its lines, in which others lie.
func roomy(h api.Half) api.Half {
	h.Lines = append(slices.Clone(h.Lines), line("zz", 9, 9, 9), line("!", -7, -7, -7))[:len(h.Lines)]
	return h
}

// whole is a half-edge with all that lies in the spare room of its lines as well, in memory of its own.
func whole(h api.Half) api.Half {
	h.Lines = append([]api.Line(nil), h.Lines[:cap(h.Lines)]...)
	return h
}

// spoil writes over all lines, and over what lies in their spare room.
func spoil(h api.Half) {
	for i := range h.Lines[:cap(h.Lines)] {
		h.Lines[:cap(h.Lines)][i] = line("spoilt", -8, -8, -8)
	}
}

// roomyRow is a row with room behind its end, in which numbers lie.
func roomyRow(l []int) []int { return append(slices.Clone(l), turn, turn, answered, turn)[:len(l)] }

func wholeRow(l []int) []int { return slices.Clone(l[:cap(l)]) }

func spoilRow(l []int) {
	for i := range l[:cap(l)] {
		l[:cap(l)][i] = -8
	}
}

// calls are all calls that a half-edge comes out of.
func calls() map[string]func(h api.Half) api.Half {
	play := func(row ...int) func(h api.Half) api.Half {
		return func(h api.Half) api.Half {
			out, _ := Play(h, row)
			return out
		}
	}
	return map[string]func(h api.Half) api.Half{
		"Turn": untold(Turn), "Asked": Asked, "Heard": Heard, "Answered": Answered,
		"Play of nothing": play(), "Play of numbers that are none": play(0, 5, -1), "Play of a turn": play(turn), "Play of an ask": play(asked),
		"Play of all": play(heard, turn, asked, answered, turn), "Play to the drop": play(turn, turn, turn, turn),
	}
}

// untold leaves what is told away.
func untold(call func(api.Half) (api.Half, int)) func(api.Half) api.Half {
	return func(h api.Half) api.Half {
		out, _ := call(h)
		return out
	}
}

func equal(a, b api.Half) bool { return reflect.DeepEqual(whole(a), whole(b)) }

func TestWhatIsHandedInStays(t *testing.T) {
	for name, call := range calls() {
		for _, h := range fitOnes {
			in := roomy(h)
			was := whole(in)
			out := call(in)
			if !equal(in, was) {
				t.Errorf("%s of %+v: what was handed in is %+v, was %+v", name, h, whole(in), was)
			}
			keep := apart(out)
			spoil(in)
			if !same(out, keep) {
				t.Errorf("%s of %+v: the answer hangs on what was handed in: %+v, was %+v", name, h, out, keep)
			}
		}
	}
}

func TestWhatComesOutIsNewMemory(t *testing.T) {
	for name, call := range calls() {
		for _, h := range fitOnes {
			in := roomy(h)
			was := whole(in)
			out, again := call(in), call(in)
			keep := apart(again)
			spoil(out)
			if !equal(in, was) {
				t.Errorf("%s of %+v: writing over the answer changes what was handed in: %+v, was %+v", name, h, whole(in), was)
			}
			if !same(again, keep) || !same(call(in), keep) {
				t.Errorf("%s of %+v: writing over one answer changes another one", name, h)
			}
		}
	}
}

func TestTheRowStays(t *testing.T) {
	h := api.Half{Peer: 5, Boot: 1, Lines: full(5)}
	for _, l := range [][]int{nil, {}, {turn}, {asked}, {turn, turn, heard, turn}, {turn, turn, turn, turn}, {turn, turn, turn, turn, turn, answered}, none()} {
		row := roomyRow(l)
		was := wholeRow(row)
		out, told := Play(h, row)
		want, tells := Play(h, slices.Clip(slices.Clone(l)))
		if !slices.Equal(wholeRow(row), was) {
			t.Errorf("%v: the row is %v, was %v", l, wholeRow(row), was)
		}
		if !same(out, want) || !slices.Equal(told, tells) {
			t.Errorf("%v: what lies behind the row plays a part: %+v, %v, want %+v, %v", l, out, told, want, tells)
		}
		spoilRow(told)
		if !slices.Equal(wholeRow(row), was) {
			t.Errorf("%v: writing over what was told changes the row: %v, was %v", l, wholeRow(row), was)
		}
		_, told = Play(h, row)
		spoilRow(row)
		if !slices.Equal(told, tells) {
			t.Errorf("%v: what was told hangs on the row: %v, want %v", l, told, tells)
		}
	}
}

// What lies in the spare room of lines plays no part; nil and empty are the same.
func TestSpareRoomPlaysNoPart(t *testing.T) {
	for name, call := range calls() {
		for _, h := range fitOnes {
			if got, want := call(roomy(h)), call(h); !same(got, want) {
				t.Errorf("%s of %+v: %+v, want %+v", name, h, got, want)
			}
			if Left(roomy(h)) != Left(h) {
				t.Errorf("Left of %+v: %d", h, Left(roomy(h)))
			}
		}
		a, b := call(api.Half{Peer: 5, Boot: 1}), call(api.Half{Peer: 5, Boot: 1, Lines: []api.Line{}})
		if !same(a, b) {
			t.Errorf("%s of nil and of an empty list: %+v, %+v", name, a, b)
		}
	}
}

func TestLeftReadsAlone(t *testing.T) {
	for _, h := range fitOnes {
		in := roomy(h)
		was := whole(in)
		Left(in)
		if !equal(in, was) {
			t.Errorf("Left: what was handed in is %+v, was %+v", whole(in), was)
		}
	}
}

// A half-edge that is gone on with in two ways keeps both apart.
func TestTwoWaysOn(t *testing.T) {
	h := Asked(api.Half{Peer: 5, Boot: 1, Lines: full(5)})
	a, _ := Turn(h)
	b := Answered(h)
	a.Lines[0].Name = "a way"
	b.Lines[0].Name = "another way"
	if !same(h, api.Half{Peer: 5, Boot: 1, Lines: full(5), Pending: true}) || a.Lines[0].Name != "a way" || a.Misses != 1 || b.Pending {
		t.Errorf("%+v, %+v, %+v", h, a, b)
	}
	_, first := Play(h, []int{turn, turn})
	_, second := Play(h, []int{turn, turn})
	first[0] = -8
	if !slices.Equal(second, []int{api.TkAsk, api.TkAsk}) {
		t.Errorf("%v", second)
	}
}

// Every call ends and none panics, at all arguments.
func TestNothingPanics(t *testing.T) {
	d := newDice(1)
	numbers := append(none(), 1, 2, 3, 4)
	number := func() int { return numbers[d.Intn(len(numbers))] }
	for range 20000 {
		h := api.Half{Peer: number(), Boot: int64(number()), Life: int64(number()), Lines: make([]api.Line, d.Intn(12)), Pending: d.Intn(2) == 0, Misses: number()}
		was := whole(h)
		var row []int
		for range d.Intn(30) {
			row = append(row, number())
		}
		if _, told := Turn(h); told != api.TkAsk && told != api.TkDrop {
			t.Fatalf("Turn tells %d", told)
		}
		Asked(h)
		Heard(h)
		Answered(h)
		Left(h)
		if _, told := Play(h, row); len(told) > len(row) {
			t.Fatalf("%v: %v", row, told)
		}
		if !equal(h, was) {
			t.Fatalf("an unfit one is changed: %+v, was %+v", h, was)
		}
	}
}

// Very long rows and lists of lines, which are not fit, are gone through as well.
func TestUnfitOnesEnd(t *testing.T) {
	for _, misses := range []int{math.MinInt, -1, 0, 3, math.MaxInt} {
		h := api.Half{Lines: make([]api.Line, 100000), Pending: true, Misses: misses}
		for _, what := range []int{0, turn, asked, heard, answered} {
			Play(h, slices.Repeat([]int{what}, 500000))
			do(h, what)
		}
		Left(h)
	}
	h, told := Play(fresh(), slices.Repeat([]int{turn, heard}, 500000))
	if len(told) != 500000 || !same(h, with(fresh(), true, 0)) {
		t.Errorf("%+v, %d told", h, len(told))
	}
}
