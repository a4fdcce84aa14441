package chans

import (
	"math"
	"slices"
	"testing"

	"eddy/api"
	"eddy/ext"
	"eddy/num"
)

// sets holds Set of the one channel of a kind and a scale to what the document says of it.
func sets(t *testing.T, kind int, scale, x, input int64, err api.Errno) {
	t.Helper()
	if in, e := sayTold(kind, scale, x); in != input || e != err {
		t.Fatalf("kind %d, scale %d, x %d: the case itself is wrong: %d, %d", kind, scale, x, in, e)
	}
	l := []api.State{with(alive("a", 1, 1, api.KMean, 2), 4), bare(alive("m", 5, 6, kind, scale)), bare(gone("z", 1, 1, kind, scale))}
	want := slices.Clone(l)
	if err == api.OK {
		want[1].Has, want[1].Input = true, input
	}
	if err == api.OK && kind == api.KExt {
		want[1].Min, want[1].Max = of(input, 3, 0), of(input, 3, 0)
	}
	if got, e := Set(l, 3, "m", x); e != err || !slices.Equal(got, want) {
		t.Errorf("kind %d, scale %d: Set to %d: %+v, %d, want %+v, %d", kind, scale, x, got, e, want, err)
	}
}

func TestP18_6SetMean(t *testing.T) {
	for _, c := range []struct{ scale, end int64 }{
		{1, 2147483647}, {2, 1073741823}, {3, 715827882}, {4, 536870911}, {1000, 2147483}, {mostScale - 1, 2048}, {mostScale, 2047},
	} {
		for _, sign := range []int64{1, -1} {
			sets(t, api.KMean, c.scale, sign*(c.end-1), sign*(c.end-1)*c.scale, api.OK)
			sets(t, api.KMean, c.scale, sign*c.end, sign*c.end*c.scale, api.OK)
			sets(t, api.KMean, c.scale, sign*(c.end+1), 0, api.ErrRange)
			sets(t, api.KMean, c.scale, sign*(c.end+2), 0, api.ErrRange)
		}
	}
	sets(t, api.KMean, 4, 5, 20, api.OK)
	sets(t, api.KMean, 4, 600000000, 0, api.ErrRange)
	sets(t, api.KMean, mostScale, 3000, 0, api.ErrRange)
	sets(t, api.KMean, mostScale, 0, 0, api.OK)
	for _, x := range []int64{1 << 44, 1<<44 + 1, 1 << 43, -1 << 44, -1 << 43, 1 << 62, math.MaxInt64, math.MinInt64} { // the product leaves 64 bits, some of them come back to 0 or near it
		sets(t, api.KMean, mostScale, x, 0, api.ErrRange)
		sets(t, api.KMean, 4, x, 0, api.ErrRange)
	}
}

func TestP18_6SetCount(t *testing.T) {
	for _, scale := range []int64{1, 2, 1000, mostScale - 1, mostScale} {
		sets(t, api.KCount, scale, 0, 0, api.OK)
		sets(t, api.KCount, scale, 1, scale, api.OK)
		for _, x := range []int64{-1, 2, -2, 3, 1 << 32, 1<<32 + 1, most, most + 1, -most, -most - 1, 1 << 44, math.MaxInt64, math.MinInt64} {
			sets(t, api.KCount, scale, x, 0, api.ErrUnit) // ahead of ErrRange
		}
	}
}

func TestP18_6SetSquare(t *testing.T) {
	for _, c := range []struct{ scale, end int64 }{
		{1, 46340}, {2, 32767}, {3, 26754}, {4, 23170}, {1000, 1465}, {mostScale - 1, 45}, {mostScale, 45},
	} {
		for _, sign := range []int64{1, -1} {
			sets(t, api.KSquare, c.scale, sign*(c.end-1), (c.end-1)*(c.end-1)*c.scale, api.OK)
			sets(t, api.KSquare, c.scale, sign*c.end, c.end*c.end*c.scale, api.OK)
			sets(t, api.KSquare, c.scale, sign*(c.end+1), 0, api.ErrRange)
			sets(t, api.KSquare, c.scale, sign*(c.end+2), 0, api.ErrRange)
		}
	}
	sets(t, api.KSquare, 4, -3, 36, api.OK)
	sets(t, api.KSquare, mostScale, 0, 0, api.OK)
	sets(t, api.KSquare, mostScale, 46340, 0, api.ErrRange) // the square fits, times the scale it does not
	for _, scale := range []int64{1, 4, mostScale} {
		for _, x := range []int64{46341, 65536, most, most + 1, 1 << 32, 1<<32 + 1, 3037000500, math.MaxInt64, math.MinInt64} { // squares that leave 64 bits, some of them come back to 0 or 1
			sets(t, api.KSquare, scale, x, 0, api.ErrRange)
			sets(t, api.KSquare, scale, -x, 0, api.ErrRange)
		}
	}
}

func TestP18_6SetExt(t *testing.T) {
	for _, x := range []int64{0, 1, -1, 2, -7, 46341, most - 1, 1 - most, most, -most} {
		sets(t, api.KExt, 1, x, x, api.OK)
	}
	for _, x := range []int64{most + 1, -most - 1, most + 2, -most - 2, 1 << 32, -1 << 32, math.MaxInt64, math.MinInt64} {
		sets(t, api.KExt, 1, x, 0, api.ErrRange)
	}
}

// ErrNone is told ahead of what the input is told as.
func TestP18_6SetOfNone(t *testing.T) {
	l := mixed()
	for _, name := range []string{"d", "g", "a", "m", "bb", "z", "", "B", "b\x00", "\xff"} {
		for _, x := range []int64{0, 1, 2, most + 1, math.MinInt64} {
			if got, err := Set(l, 3, name, x); err != api.ErrNone || !slices.Equal(got, l) {
				t.Errorf("Set %q to %d: %+v, %d", name, x, got, err)
			}
		}
	}
	for _, l := range [][]api.State{nil, {}} {
		if got, err := Set(l, 3, "m", 1); err != api.ErrNone || len(got) > 0 {
			t.Errorf("Set among none: %+v, %d", got, err)
		}
	}
}

// An input that was set is set otherwise; one that is refused leaves the old one.
func TestP18_6SetAgain(t *testing.T) {
	l := mixed()
	for _, c := range []struct {
		name string
		x    int64
		at   int
		want api.State
		err  api.Errno
	}{
		{"b", -6, 0, with(l[0].Chan, -24), api.OK},
		{"b", 0, 0, with(l[0].Chan, 0), api.OK}, // nought is an input as well
		{"b", most, 0, l[0], api.ErrRange},
		{"c", 0, 1, with(l[1].Chan, 0), api.OK},
		{"c", 1, 1, l[1], api.OK},
		{"c", 2, 1, l[1], api.ErrUnit},
		{"q", 5, 6, with(l[6].Chan, 100), api.OK},
		{"q", -3, 6, l[6], api.OK},
		{"q", most, 6, l[6], api.ErrRange},
		{"e", 4, 3, rich("e", 7, 3, 4, of(-9, 1, 2), of(4, 3, 0)), api.OK}, // the node's own -7 is gone
		{"e", -8, 3, rich("e", 7, 3, -8, of(-9, 1, 2), of(-8, 3, 0)), api.OK},
		{"e", -9, 3, rich("e", 7, 3, -9, of(-9, 3, 0), of(-9, 3, 0)), api.OK}, // of one Value the younger one
		{"e", -10, 3, rich("e", 7, 3, -10, of(-10, 3, 0), of(-10, 3, 0)), api.OK},
		{"e", most + 1, 3, l[3], api.ErrRange},
		{"f", 1, 4, rich("f", 1, 15, 1, of(1, 3, 0), of(most, 0, 63)), api.OK},
		{"f", most, 4, rich("f", 1, 15, most, of(most, 3, 0), of(most, 3, 0)), api.OK},
	} {
		want := slices.Clone(l)
		want[c.at] = c.want
		if got, err := Set(l, 3, c.name, c.x); err != c.err || !slices.Equal(got, want) {
			t.Errorf("Set %s to %d: %+v, %d, want %+v, %d", c.name, c.x, got, err, want, c.err)
		}
	}
}

// Whose extreme values they are hangs on the node that sets, not on the record's maker.
func TestP18_6SetByEachNode(t *testing.T) {
	for id := range api.MaxNodes {
		l := []api.State{{Chan: alive("e", 1, 4, api.KExt, 1), Min: of(0, 7, 1), Max: of(0, 7, 1)}}
		low, high := ext.Set(id, 3, l[0].Min, l[0].Max)
		want := []api.State{rich("e", 1, 4, 3, low, high)}
		if got, err := Set(l, id, "e", 3); err != api.OK || !slices.Equal(got, want) || got[0].Max != of(3, id, 0) || (got[0].Min == of(0, 7, 1)) != (id != 7) {
			t.Errorf("Set by %d: %+v, %d, want %+v", id, got, err, want)
		}
	}
}

func TestP18_6SetOfDrawnOnes(t *testing.T) {
	type sort struct {
		kind int
		err  api.Errno
	}
	d, sorts := newDice(186), map[sort]int{}
	for range 60000 {
		l, id, name := d.states(), d.node(), pick(d, twelve())
		s, _ := Find(l, name)
		x := d.input()
		switch {
		case d.Intn(3) == 0:
			x = pick(d, inputs())
		case d.Intn(3) == 0 && s.Chan.Scale > 0: // near an end of the range
			x = (most/s.Chan.Scale + d.Int63n(3) - 1) * pick(d, []int64{1, -1})
		}
		want, wantErr := saySet(l, id, name, x)
		got, err := Set(l, id, name, x)
		if !slices.Equal(got, want) || err != wantErr {
			t.Fatalf("Set(%+v, %d, %q, %d): %+v, %d, want %+v, %d", l, id, name, x, got, err, want, wantErr)
		}
		if set, ok := Find(got, name); err == api.OK && (!ok || !set.Has || !num.Fits(set.Input)) {
			t.Fatalf("Set(%+v, %d, %q, %d): %+v", l, id, name, x, set)
		}
		sorts[sort{s.Chan.Kind, err}]++
	}
	for _, s := range []sort{
		{0, api.ErrNone}, {api.KMean, api.OK}, {api.KMean, api.ErrRange}, {api.KCount, api.OK}, {api.KCount, api.ErrUnit},
		{api.KSquare, api.OK}, {api.KSquare, api.ErrRange}, {api.KExt, api.OK}, {api.KExt, api.ErrRange},
	} {
		if sorts[s] < 100 {
			t.Errorf("%d of %+v", sorts[s], s)
		}
	}
	if len(sorts) != 9 {
		t.Errorf("sorts %v", sorts)
	}
}
