package dir

import (
	"slices"
	"testing"

	"eddy/api"
)

func TestP17_3Find(t *testing.T) {
	l := []api.Chan{alive("b", 3, 1, api.KMean, 4), gone("d", 2, 5, api.KCount, 9), alive("f", 1, 0, api.KExt, 1)}
	for _, c := range []struct {
		name string
		want api.Chan
		ok   bool
	}{
		{"b", l[0], true}, {"d", l[1], true}, {"f", l[2], true},
		{"a", api.Chan{}, false}, {"c", api.Chan{}, false}, {"e", api.Chan{}, false}, {"g", api.Chan{}, false},
		{"", api.Chan{}, false}, {"B", api.Chan{}, false}, {"b0", api.Chan{}, false}, {"bb", api.Chan{}, false}, {"b\x00", api.Chan{}, false},
		{"\xff", api.Chan{}, false}, {"d ", api.Chan{}, false}, {"abcdefghijklmnopq", api.Chan{}, false},
	} {
		if got, ok := Find(l, c.name); got != c.want || ok != c.ok {
			t.Errorf("Find %q: %+v, %t, want %+v, %t", c.name, got, ok, c.want, c.ok)
		}
	}
	for _, none := range [][]api.Chan{nil, {}} {
		for _, name := range texts() {
			if got, ok := Find(none, name); got != (api.Chan{}) || ok {
				t.Errorf("Find %q in none: %+v, %t", name, got, ok)
			}
		}
	}
}

// Each record of a list, and each name that it has not.
func TestP17_3FindOfAll(t *testing.T) {
	d := newDice(173)
	for range 3000 {
		l := d.any()
		m := book(l)
		for _, name := range append(twelve(), texts()...) {
			want, have := m[name]
			if got, ok := Find(l, name); got != want || ok != have {
				t.Fatalf("Find %q in %+v: %+v, %t", name, l, got, ok)
			}
		}
	}
}

type learnCase struct {
	name string
	l    []api.Chan
	c    api.Chan
	want []api.Chan
	what int
}

func learns(t *testing.T, cases []learnCase) {
	t.Helper()
	for _, c := range cases {
		if l, what := sayLearn(c.l, c.c); !slices.Equal(l, c.want) || what != c.what {
			t.Fatalf("%s: the case itself is wrong: %+v, %d", c.name, l, what)
		}
		if l, what := Learn(c.l, c.c); !slices.Equal(l, c.want) || what != c.what {
			t.Errorf("%s: Learn(%+v, %+v): %+v, %d, want %+v, %d", c.name, c.l, c.c, l, what, c.want, c.what)
		}
		if l := Merge(c.l, []api.Chan{c.c}); !slices.Equal(l, c.want) {
			t.Errorf("%s: Merge(%+v, %+v): %+v, want %+v", c.name, c.l, c.c, l, c.want)
		}
	}
}

func TestP17_4LearnAdded(t *testing.T) {
	b, d, f := alive("b", 3, 1, api.KMean, 4), gone("d", 2, 5, api.KCount, 9), alive("f", 1, 0, api.KExt, 1)
	at := func(name string) api.Chan { return gone(name, 7, 7, api.KSquare, 2) }
	learns(t, []learnCase{
		{"among none", nil, b, []api.Chan{b}, api.LnAdded},
		{"among an empty list", []api.Chan{}, d, []api.Chan{d}, api.LnAdded},
		{"at the front", []api.Chan{b, d, f}, at("a"), []api.Chan{at("a"), b, d, f}, api.LnAdded},
		{"at the front, of one", []api.Chan{b}, at("a"), []api.Chan{at("a"), b}, api.LnAdded},
		{"in the middle", []api.Chan{b, d, f}, at("c"), []api.Chan{b, at("c"), d, f}, api.LnAdded},
		{"in the middle, further on", []api.Chan{b, d, f}, at("e"), []api.Chan{b, d, at("e"), f}, api.LnAdded},
		{"at the end", []api.Chan{b, d, f}, at("g"), []api.Chan{b, d, f, at("g")}, api.LnAdded},
		{"at the end, of one", []api.Chan{b}, at("bb"), []api.Chan{b, at("bb")}, api.LnAdded},
		{"the beginning of a name", named("ab"), at("a"), append([]api.Chan{at("a")}, named("ab")...), api.LnAdded},
		{"ahead of letters", named("a"), at("_"), append([]api.Chan{at("_")}, named("a")...), api.LnAdded},
		{"one that is alive", []api.Chan{d}, f, []api.Chan{d, f}, api.LnAdded},
	})
}

// Of a full list each one is left out, and learned as the last there is room for; one more finds none.
func TestP17_4LearnFull(t *testing.T) {
	full := named(eight()...)
	var cases []learnCase
	for i, c := range full {
		cases = append(cases, learnCase{"the last that there is room for", slices.Delete(slices.Clone(full), i, i+1), c, full, api.LnAdded})
		newer := as(c, func(c *api.Chan) { c.Epoch++ })
		behind := slices.Clone(full)
		behind[i] = newer
		cases = append(cases,
			learnCase{"newer, in a full list", full, newer, behind, api.LnNewer},
			learnCase{"older, in a full list", behind, c, behind, api.LnOlder},
			learnCase{"the same, in a full list", full, c, full, api.LnSame},
		)
	}
	for _, name := range []string{"00", "1", "a1", "b", "zz", "zzzzzzzzzzzzzzzz"} {
		for _, epoch := range []int64{1, 3, lastEpoch} {
			cases = append(cases, learnCase{"no room", full, alive(name, epoch, 0, api.KMean, 1), full, api.LnFull})
			cases = append(cases, learnCase{"no room, not alive", full, gone(name, epoch, 0, api.KMean, 1), full, api.LnFull})
		}
	}
	allGone := named(eight()...)
	for i := range allGone {
		allGone[i].Alive = false
	}
	cases = append(cases, learnCase{"no room, as those that are not alive are names too", allGone, named("b")[0], allGone, api.LnFull})
	learns(t, cases)
}

func TestP17_4LearnOfAKnownName(t *testing.T) {
	a, z := alive("a", 9, 9, api.KExt, 1), gone("z", 1, 1, api.KMean, 1)
	at := func(epoch int64, maker int) api.Chan { return alive("m", epoch, maker, api.KMean, 4) }
	var cases []learnCase
	add := func(name string, old, c api.Chan, what int) {
		stands := old
		if what == api.LnNewer {
			stands = c
		}
		cases = append(cases, learnCase{name, []api.Chan{old}, c, []api.Chan{stands}, what})
		cases = append(cases, learnCase{name + ", first", []api.Chan{old, z}, c, []api.Chan{stands, z}, what})
		cases = append(cases, learnCase{name + ", last", []api.Chan{a, old}, c, []api.Chan{a, stands}, what})
		cases = append(cases, learnCase{name + ", between", []api.Chan{a, old, z}, c, []api.Chan{a, stands, z}, what})
	}
	add("a greater Epoch", at(2, 1), at(3, 9), api.LnNewer)
	add("a greater Epoch by far", at(1, 1), at(lastEpoch, 1), api.LnNewer)
	add("a smaller Epoch", at(3, 9), at(2, 1), api.LnOlder)
	add("the last Epoch is there", at(lastEpoch, 9), at(lastEpoch-1, 1), api.LnOlder)
	add("one Epoch, a smaller Maker", at(2, 5), at(2, 1), api.LnNewer)
	add("one Epoch, Maker 0", at(2, 1), at(2, 0), api.LnNewer)
	add("one Epoch, a greater Maker", at(2, 1), at(2, 5), api.LnOlder)
	add("the same", at(2, 1), at(2, 1), api.LnSame)
	add("the same, not alive", gone("m", 2, 1, api.KMean, 4), gone("m", 2, 1, api.KMean, 4), api.LnSame)
	add("of one stamp, not alive", at(2, 1), gone("m", 2, 1, api.KMean, 4), api.LnSame)
	add("of one stamp, alive", gone("m", 2, 1, api.KMean, 4), at(2, 1), api.LnSame)
	add("of one stamp, another kind", at(2, 1), alive("m", 2, 1, api.KSquare, 4), api.LnSame)
	add("of one stamp, another scale", at(2, 1), alive("m", 2, 1, api.KMean, 5), api.LnSame)
	add("newer, and not alive", at(2, 1), gone("m", 3, 1, api.KMean, 4), api.LnNewer)
	add("newer, and another kind", at(2, 1), alive("m", 3, 1, api.KExt, 1), api.LnNewer)
	add("older, and not alive", at(2, 1), gone("m", 1, 1, api.KMean, 4), api.LnOlder)
	learns(t, cases)
	// Example 2: of what example 1 has made.
	if l, what := Learn([]api.Chan{alive("m", 3, 1, api.KExt, 1)}, gone("m", 2, 5, api.KMean, 4)); what != api.LnOlder || !slices.Equal(l, []api.Chan{alive("m", 3, 1, api.KExt, 1)}) {
		t.Errorf("example 2: %+v, %d", l, what)
	}
}

func TestP17_4LearnByTheWords(t *testing.T) {
	d, told := newDice(174), map[int]int{}
	for range 40000 {
		l, c := d.any(), d.record(twelve()[d.Intn(12)])
		want, what := sayLearn(l, c)
		if got, is := Learn(l, c); !slices.Equal(got, want) || is != what {
			t.Fatalf("Learn(%+v, %+v): %+v, %d, want %+v, %d", l, c, got, is, want, what)
		}
		told[what]++
	}
	for what := api.LnOlder; what <= api.LnFull; what++ {
		if told[what] < 500 {
			t.Errorf("told: %v", told)
		}
	}
}

func TestP17_5Merge(t *testing.T) {
	b, d, f := alive("b", 3, 1, api.KMean, 4), gone("d", 2, 5, api.KCount, 9), alive("f", 1, 0, api.KExt, 1)
	newB, oldD, likeF := gone("b", 4, 9, api.KMean, 4), alive("d", 2, 6, api.KMean, 1), gone("f", 1, 0, api.KExt, 1)
	a, c, g := named("a")[0], named("c")[0], named("g")[0]
	full := named(eight()...)
	for _, x := range []struct {
		name          string
		l, more, want []api.Chan
	}{
		{"none and none", nil, nil, nil},
		{"empty ones", []api.Chan{}, []api.Chan{}, nil},
		{"none and some", nil, []api.Chan{b, d, f}, []api.Chan{b, d, f}},
		{"some and none", []api.Chan{b, d, f}, nil, []api.Chan{b, d, f}},
		{"one by one between", []api.Chan{b, d, f}, []api.Chan{a, c, g}, []api.Chan{a, b, c, d, f, g}},
		{"all behind", []api.Chan{a, b}, []api.Chan{d, f, g}, []api.Chan{a, b, d, f, g}},
		{"all ahead", []api.Chan{d, f, g}, []api.Chan{a, b}, []api.Chan{a, b, d, f, g}},
		{"newer, older and the same", []api.Chan{b, d, f}, []api.Chan{newB, oldD, likeF}, []api.Chan{newB, d, f}},
		{"newer, older, the same and others", []api.Chan{b, d, f}, []api.Chan{a, newB, c, oldD, likeF, g}, []api.Chan{a, newB, c, d, f, g}},
		{"some of them", []api.Chan{b, f}, []api.Chan{newB, oldD}, []api.Chan{newB, oldD, f}},
		{"none and a full list", nil, full, full},
		{"a full list and others", full, []api.Chan{b, c, g}, full},
		{"a full list, others and one that is newer", full, []api.Chan{alive("1", 9, 9, 1, 1), alive("m", 4, 9, 1, 1), alive("n", 9, 9, 1, 1)}, append(append(slices.Clone(full[:6]), alive("m", 4, 9, 1, 1)), full[7])},
		{"room for one of three, the first", full[1:], named("1", "2", "3"), append(named("1"), full[1:]...)},
		{"room for one of three, behind all", full[:7], named("y", "yy", "z"), append(slices.Clone(full[:7]), named("y")...)},
		{"room for two, and what is known between", full[2:], []api.Chan{full[0], alive("_", 9, 1, 1, 1), named("b")[0], named("c")[0]}, append([]api.Chan{full[0], alive("_", 9, 1, 1, 1), full[3], full[4], full[5]}, append(named("b"), full[6:]...)...)},
	} {
		if want := sayMerge(x.l, x.more); !slices.Equal(want, x.want) {
			t.Fatalf("%s: the case itself is wrong: %+v", x.name, want)
		}
		if got := Merge(x.l, x.more); !slices.Equal(got, x.want) {
			t.Errorf("%s: Merge(%+v, %+v): %+v, want %+v", x.name, x.l, x.more, got, x.want)
		}
	}
}

// Merge is Learn of each, in order: by the words, and by the calls; with room for all, for some and for none.
func TestP17_5MergeIsLearnOfEach(t *testing.T) {
	d, passed, fresh := newDice(175), 0, 0
	for range 40000 {
		l, more := d.any(), d.any()
		want := sayMerge(l, more)
		by, full := l, false
		for _, c := range more {
			what := 0
			by, what = Learn(by, c)
			full = full || what == api.LnFull
		}
		if got := Merge(l, more); !slices.Equal(got, want) || !slices.Equal(by, want) {
			t.Fatalf("Merge(%+v, %+v): %+v, one by one %+v, want %+v", l, more, got, by, want)
		}
		if full {
			passed++
		}
		if len(want) > len(l) {
			fresh++
		}
	}
	if passed < 4000 || passed > 36000 || fresh < 4000 {
		t.Errorf("in %d of 40000 some are passed over, in %d some are added", passed, fresh)
	}
}

type createCase struct {
	name  string
	l     []api.Chan
	maker int
	of    string
	kind  int
	scale int64
	want  []api.Chan // nil beside an error: the list as it was
	err   api.Errno
}

func creates(t *testing.T, cases []createCase) {
	t.Helper()
	for _, c := range cases {
		if c.err != api.OK {
			c.want = c.l
		}
		if l, err := sayCreate(c.l, c.maker, c.of, c.kind, c.scale); !slices.Equal(l, c.want) || err != c.err {
			t.Fatalf("%s: the case itself is wrong: %+v, %d", c.name, l, err)
		}
		if l, err := Create(c.l, c.maker, c.of, c.kind, c.scale); !slices.Equal(l, c.want) || err != c.err {
			t.Errorf("%s: Create(%+v, %d, %q, %d, %d): %+v, %d, want %+v, %d", c.name, c.l, c.maker, c.of, c.kind, c.scale, l, err, c.want, c.err)
		}
	}
}

func TestP17_6Create(t *testing.T) {
	b, d, f := alive("b", 3, 1, api.KMean, 4), gone("d", 2, 5, api.KCount, 9), alive("f", 1, 0, api.KExt, 1)
	l := []api.Chan{b, d, f}
	seven := named(eight()[:7]...)
	fullGone := named(eight()...)
	fullGone[3].Alive = false
	anew := slices.Clone(fullGone)
	anew[3] = alive("a", 4, 0, api.KCount, 2)
	creates(t, []createCase{
		{"example 1", nil, 3, "m", api.KMean, 4, []api.Chan{alive("m", 1, 3, api.KMean, 4)}, api.OK},
		{"example 1, behind Delete", []api.Chan{gone("m", 2, 5, api.KMean, 4)}, 1, "m", api.KExt, 1, []api.Chan{alive("m", 3, 1, api.KExt, 1)}, api.OK},
		{"at the front", l, 0, "a", api.KMean, 1, []api.Chan{alive("a", 1, 0, api.KMean, 1), b, d, f}, api.OK},
		{"in the middle", l, 15, "c", api.KCount, mostScale, []api.Chan{b, alive("c", 1, 15, api.KCount, mostScale), d, f}, api.OK},
		{"at the end", l, 7, "g", api.KSquare, 2, []api.Chan{b, d, f, alive("g", 1, 7, api.KSquare, 2)}, api.OK},
		{"anew, all else other", l, 9, "d", api.KExt, 1, []api.Chan{b, alive("d", 3, 9, api.KExt, 1), f}, api.OK},
		{"anew, all else the same", l, 5, "d", api.KCount, 9, []api.Chan{b, alive("d", 3, 5, api.KCount, 9), f}, api.OK},
		{"anew, Epoch 1", []api.Chan{gone("m", 1, 0, api.KMean, 1)}, 15, "m", api.KMean, 1, []api.Chan{alive("m", 2, 15, api.KMean, 1)}, api.OK},
		{"the last Epoch but one", []api.Chan{gone("m", lastEpoch-1, 0, api.KMean, 1)}, 15, "m", api.KMean, 1, []api.Chan{alive("m", lastEpoch, 15, api.KMean, 1)}, api.OK},
		{"others with the last Epoch", []api.Chan{gone("a", lastEpoch, 0, api.KMean, 1), alive("z", lastEpoch, 0, api.KMean, 1)}, 1, "m", api.KMean, 1, []api.Chan{gone("a", lastEpoch, 0, api.KMean, 1), alive("m", 1, 1, api.KMean, 1), alive("z", lastEpoch, 0, api.KMean, 1)}, api.OK},
		{"the last name", seven, 2, "z", api.KMean, 1, append(slices.Clone(seven), alive("z", 1, 2, api.KMean, 1)), api.OK},
		{"anew in a full list", fullGone, 0, "a", api.KCount, 2, anew, api.OK},
		{"a name of 16 bytes", nil, 3, "abcdefghijklmnop", api.KMean, 4, []api.Chan{alive("abcdefghijklmnop", 1, 3, api.KMean, 4)}, api.OK},
		{"an empty list", []api.Chan{}, 0, "_", api.KExt, 1, []api.Chan{alive("_", 1, 0, api.KExt, 1)}, api.OK},
	})
}

// Each error by itself.
func TestP17_6CreateErrors(t *testing.T) {
	b, d, last := alive("b", 3, 1, api.KMean, 4), gone("d", 2, 5, api.KCount, 9), gone("f", lastEpoch, 0, api.KExt, 1)
	l := []api.Chan{b, d, last}
	full := named(eight()...)
	none := named(eight()...)
	for i := range none {
		none[i].Alive = false
	}
	var cases []createCase
	for _, s := range texts() {
		if !sayName(s) {
			cases = append(cases, createCase{"no name", l, 1, s, api.KMean, 1, nil, api.ErrName}, createCase{"no name, nothing there", nil, 1, s, api.KExt, 1, nil, api.ErrName})
		}
	}
	for _, k := range kinds() {
		if k < 1 || k > 4 {
			cases = append(cases, createCase{"no kind", l, 1, "m", k, 1, nil, api.ErrKind}, createCase{"no kind, nothing there", nil, 1, "m", k, 2, nil, api.ErrKind})
		}
	}
	for k := api.KMean; k <= api.KExt; k++ {
		for _, s := range scales() {
			if s < 1 || s > mostScale || k == api.KExt && s != 1 {
				cases = append(cases, createCase{"no scale", l, 1, "m", k, s, nil, api.ErrScale}, createCase{"no scale, anew", l, 1, "d", k, s, nil, api.ErrScale})
			}
		}
	}
	cases = append(cases,
		createCase{"example 1, again", []api.Chan{alive("m", 1, 3, api.KMean, 4)}, 1, "m", api.KMean, 4, nil, api.ErrHave},
		createCase{"it is there", l, 1, "b", api.KMean, 4, nil, api.ErrHave},
		createCase{"it is there, of another kind", l, 1, "b", api.KExt, 1, nil, api.ErrHave},
		createCase{"no room", full, 1, "b", api.KMean, 4, nil, api.ErrChans},
		createCase{"no room behind all", full, 1, "zz", api.KMean, 4, nil, api.ErrChans},
		createCase{"no room ahead of all", full, 1, "00", api.KMean, 4, nil, api.ErrChans},
		createCase{"no room, nothing alive", none, 1, "b", api.KMean, 4, nil, api.ErrChans},
		createCase{"the last Epoch", l, 1, "f", api.KMean, 4, nil, api.ErrLast},
		createCase{"the last Epoch, the same once more", l, 0, "f", api.KExt, 1, nil, api.ErrLast},
	)
	creates(t, cases)
}

// Where two errors apply, the first one is the answer. (ErrHave, ErrChans and ErrLast leave just one pair.)
func TestP17_6CreateTwoErrors(t *testing.T) {
	full := named(eight()...)
	there := []api.Chan{alive("m", lastEpoch, 1, api.KMean, 4)}
	last := []api.Chan{gone("m", lastEpoch, 1, api.KMean, 4)}
	creates(t, []createCase{
		{"name and kind", nil, 1, "M", 5, 1, nil, api.ErrName},
		{"name and scale", nil, 1, "", api.KExt, 2, nil, api.ErrName},
		{"name and no room", full, 1, "M", api.KMean, 1, nil, api.ErrName},
		{"kind and scale", nil, 1, "m", 0, 0, nil, api.ErrKind},
		{"kind 5 and scale", nil, 1, "m", 5, mostScale + 1, nil, api.ErrKind},
		{"kind and it is there", named("m"), 1, "m", 5, 1, nil, api.ErrKind},
		{"kind and no room", full, 1, "b", 0, 1, nil, api.ErrKind},
		{"kind and the last Epoch", last, 1, "m", 0, 1, nil, api.ErrKind},
		{"scale and it is there", named("m"), 1, "m", api.KMean, 0, nil, api.ErrScale},
		{"scale and no room", full, 1, "b", api.KExt, 2, nil, api.ErrScale},
		{"scale and the last Epoch", last, 1, "m", api.KMean, mostScale + 1, nil, api.ErrScale},
		{"it is there, with the last Epoch", there, 1, "m", api.KMean, 1, nil, api.ErrHave},
		{"it is there, and the list is full", full, 1, "m", api.KMean, 1, nil, api.ErrHave},
		{"all three of the first", full, 1, "-", -1, -1, nil, api.ErrName},
	})
}

func TestP17_6CreateByTheWords(t *testing.T) {
	d, told := newDice(176), map[api.Errno]int{}
	for range 60000 {
		l, maker, name, kind, scale := d.any(), d.maker(), twelve()[d.Intn(12)], 1+d.Intn(4), int64(1)
		switch d.Intn(8) {
		case 0:
			name = texts()[d.Intn(len(texts()))]
		case 1:
			kind = kinds()[d.Intn(len(kinds()))]
		case 2, 3:
			scale = scales()[d.Intn(len(scales()))]
		}
		want, err := sayCreate(l, maker, name, kind, scale)
		if got, is := Create(l, maker, name, kind, scale); !slices.Equal(got, want) || is != err {
			t.Fatalf("Create(%+v, %d, %q, %d, %d): %+v, %d, want %+v, %d", l, maker, name, kind, scale, got, is, want, err)
		}
		told[err]++
	}
	for _, e := range []api.Errno{api.OK, api.ErrName, api.ErrKind, api.ErrScale, api.ErrHave, api.ErrChans, api.ErrLast} {
		if told[e] < 500 {
			t.Errorf("told: %v", told)
		}
	}
}

type deleteCase struct {
	name  string
	l     []api.Chan
	maker int
	of    string
	want  []api.Chan // nil beside an error: the list as it was
	err   api.Errno
}

func TestP17_7Delete(t *testing.T) {
	b, d, f := alive("b", 3, 1, api.KMean, 4), gone("d", 2, 5, api.KCount, 9), alive("f", 1, 0, api.KExt, 1)
	last, lastGone := alive("y", lastEpoch, 2, api.KMean, 1), gone("z", lastEpoch, 2, api.KMean, 1)
	l := []api.Chan{b, d, f, last, lastGone}
	full := named(eight()...)
	less := slices.Clone(full)
	less[6] = gone("m", 4, 0, api.KMean, 4)
	cases := []deleteCase{
		{"example 1", []api.Chan{alive("m", 1, 3, api.KMean, 4)}, 5, "m", []api.Chan{gone("m", 2, 5, api.KMean, 4)}, api.OK},
		{"by the same one", []api.Chan{alive("m", 1, 3, api.KMean, 4)}, 3, "m", []api.Chan{gone("m", 2, 3, api.KMean, 4)}, api.OK},
		{"the first", l, 15, "b", []api.Chan{gone("b", 4, 15, api.KMean, 4), d, f, last, lastGone}, api.OK},
		{"one between", l, 0, "f", []api.Chan{b, d, gone("f", 2, 0, api.KExt, 1), last, lastGone}, api.OK},
		{"the last", []api.Chan{d, f}, 1, "f", []api.Chan{d, gone("f", 2, 1, api.KExt, 1)}, api.OK},
		{"of a full list", full, 0, "m", less, api.OK},
		{"the last Epoch but one", []api.Chan{alive("m", lastEpoch-1, 3, api.KSquare, mostScale)}, 9, "m", []api.Chan{gone("m", lastEpoch, 9, api.KSquare, mostScale)}, api.OK},
		{"the last Epoch", l, 1, "y", nil, api.ErrLast},
		{"the last Epoch, not alive", l, 1, "z", nil, api.ErrNone},
		{"not alive", l, 1, "d", nil, api.ErrNone},
		{"example 3", []api.Chan{alive("m", 1, 3, api.KMean, 4)}, 0, "x", nil, api.ErrNone},
		{"not there, of a full list", full, 0, "b", nil, api.ErrNone},
		{"nothing there", nil, 0, "m", nil, api.ErrNone},
		{"an empty list", []api.Chan{}, 0, "m", nil, api.ErrNone},
	}
	for _, s := range texts() {
		if !sayName(s) {
			cases = append(cases, deleteCase{"no name", l, 0, s, nil, api.ErrNone})
		}
	}
	for _, c := range cases {
		if c.err != api.OK {
			c.want = c.l
		}
		if l, err := sayDelete(c.l, c.maker, c.of); !slices.Equal(l, c.want) || err != c.err {
			t.Fatalf("%s: the case itself is wrong: %+v, %d", c.name, l, err)
		}
		if l, err := Delete(c.l, c.maker, c.of); !slices.Equal(l, c.want) || err != c.err {
			t.Errorf("%s: Delete(%+v, %d, %q): %+v, %d, want %+v, %d", c.name, c.l, c.maker, c.of, l, err, c.want, c.err)
		}
	}
}

func TestP17_7DeleteByTheWords(t *testing.T) {
	d, told := newDice(177), map[api.Errno]int{}
	for range 40000 {
		l, maker, name := d.any(), d.maker(), twelve()[d.Intn(12)]
		want, err := sayDelete(l, maker, name)
		if got, is := Delete(l, maker, name); !slices.Equal(got, want) || is != err {
			t.Fatalf("Delete(%+v, %d, %q): %+v, %d, want %+v, %d", l, maker, name, got, is, want, err)
		}
		told[err]++
	}
	if told[api.OK] < 1000 || told[api.ErrNone] < 1000 || told[api.ErrLast] < 500 {
		t.Errorf("told: %v", told)
	}
}

func TestP17_8Alive(t *testing.T) {
	for _, none := range [][]api.Chan{nil, {}} {
		if got := Alive(none); len(got) != 0 {
			t.Errorf("Alive of none: %+v", got)
		}
	}
	full := named(eight()...)
	for which := range 1 << len(full) { // each record alive or not
		l := slices.Clone(full)
		var want []api.Chan
		for i := range l {
			if l[i].Alive = which>>i&1 == 1; l[i].Alive {
				want = append(want, l[i])
			}
		}
		if got := Alive(l); !slices.Equal(got, want) {
			t.Errorf("Alive(%+v): %+v", l, got)
		}
	}
	d := newDice(178)
	for range 2000 {
		l := d.any()
		want := slices.DeleteFunc(slices.Clone(l), func(c api.Chan) bool { return !c.Alive })
		if got := Alive(l); !slices.Equal(got, want) || !Fits(got) {
			t.Fatalf("Alive(%+v): %+v", l, got)
		}
	}
}

// The document's three examples, each as a row of calls.
func TestExamples(t *testing.T) {
	l, err := Create(nil, 3, "m", api.KMean, 4)
	if err != api.OK || !slices.Equal(l, []api.Chan{alive("m", 1, 3, api.KMean, 4)}) {
		t.Fatalf("1: %+v, %d", l, err)
	}
	if again, err := Create(l, 3, "m", api.KMean, 4); err != api.ErrHave || !slices.Equal(again, l) {
		t.Errorf("1: again: %+v, %d", again, err)
	}
	l, err = Delete(l, 5, "m")
	if err != api.OK || !slices.Equal(l, []api.Chan{gone("m", 2, 5, api.KMean, 4)}) {
		t.Errorf("1: deleted: %+v, %d", l, err)
	}
	l, err = Create(l, 1, "m", api.KExt, 1)
	if err != api.OK || !slices.Equal(l, []api.Chan{alive("m", 3, 1, api.KExt, 1)}) {
		t.Errorf("1: anew: %+v, %d", l, err)
	}
	if _, what := Learn(l, alive("m", 2, 1, api.KMean, 4)); what != api.LnOlder {
		t.Errorf("2: %d", what)
	}
	for _, c := range []struct {
		name  string
		kind  int
		scale int64
		want  api.Errno
	}{
		{"M", api.KMean, 1, api.ErrName}, {"", api.KMean, 1, api.ErrName}, {"abcdefghijklmnopq", api.KMean, 1, api.ErrName},
		{"x", 5, 1, api.ErrKind}, {"x", api.KExt, 2, api.ErrScale}, {"x", api.KMean, 0, api.ErrScale},
	} {
		if same, err := Create(l, 0, c.name, c.kind, c.scale); err != c.want || !slices.Equal(same, l) {
			t.Errorf("3: Create of %q, %d, %d: %+v, %d, want %d", c.name, c.kind, c.scale, same, err, c.want)
		}
	}
	if same, err := Delete(l, 0, "x"); err != api.ErrNone || !slices.Equal(same, l) {
		t.Errorf("3: Delete of x: %+v, %d", same, err)
	}
}
