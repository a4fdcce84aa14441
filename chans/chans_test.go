package chans

import (
	"slices"
	"testing"

	"eddy/api"
	"eddy/dir"
	"eddy/ext"
)

// The document's three examples.
func TestExamples(t *testing.T) {
	l, err := Create(nil, 3, "m", api.KMean, 4)
	if err != api.OK || !slices.Equal(l, []api.State{bare(alive("m", 1, 3, api.KMean, 4))}) {
		t.Fatalf("Create: %+v, %d", l, err)
	}
	set, err := Set(l, 3, "m", 5)
	if err != api.OK || !slices.Equal(set, []api.State{with(l[0].Chan, 20)}) {
		t.Errorf("Set to 5: %+v, %d", set, err)
	}
	if got, err := Set(set, 3, "m", 600000000); err != api.ErrRange || !slices.Equal(got, set) {
		t.Errorf("Set to 600000000: %+v, %d", got, err)
	}
	deleted, err := Delete(set, 3, "m")
	if err != api.OK || !slices.Equal(deleted, []api.State{bare(gone("m", 2, 3, api.KMean, 4))}) {
		t.Errorf("Delete: %+v, %d", deleted, err)
	}
	if got, err := Set(deleted, 3, "m", 5); err != api.ErrNone || !slices.Equal(got, deleted) {
		t.Errorf("Set behind Delete: %+v, %d", got, err)
	}

	c := alive("m", 2, 1, api.KExt, 1)
	learned, ok := Learn(set, c)
	if !ok || !slices.Equal(learned, []api.State{bare(c)}) {
		t.Errorf("Learn: %+v, %t", learned, ok)
	}
	if again, ok := Learn(learned, c); ok || !slices.Equal(again, learned) {
		t.Errorf("Learn again: %+v, %t", again, ok)
	}
	if got, err := Set(learned, 3, "m", -7); err != api.OK || !slices.Equal(got, []api.State{rich("m", 2, 1, -7, of(-7, 3, 0), of(-7, 3, 0))}) {
		t.Errorf("Set to -7: %+v, %d", got, err)
	}

	count := []api.State{bare(alive("c", 1, 3, api.KCount, 1000))}
	if got, err := Set(count, 3, "c", 2); err != api.ErrUnit || !slices.Equal(got, count) {
		t.Errorf("KCount, Set to 2: %+v, %d", got, err)
	}
	square := []api.State{bare(alive("q", 1, 3, api.KSquare, 4))}
	if got, err := Set(square, 3, "q", -3); err != api.OK || !slices.Equal(got, []api.State{with(square[0].Chan, 36)}) {
		t.Errorf("KSquare, Set to -3: %+v, %d", got, err)
	}
}

func TestP18_2Find(t *testing.T) {
	l := mixed()
	for _, c := range []struct {
		name string
		want api.State
		ok   bool
	}{
		{"b", l[0], true}, {"c", l[1], true}, {"e", l[3], true}, {"f", l[4], true}, {"q", l[6], true},
		{"d", api.State{}, false}, {"g", api.State{}, false}, // not alive
		{"a", api.State{}, false}, {"bb", api.State{}, false}, {"m", api.State{}, false}, {"z", api.State{}, false},
		{"", api.State{}, false}, {"B", api.State{}, false}, {"b\x00", api.State{}, false}, {"b ", api.State{}, false}, {"\xff", api.State{}, false},
	} {
		if got, ok := Find(l, c.name); got != c.want || ok != c.ok {
			t.Errorf("Find %q: %+v, %t, want %+v, %t", c.name, got, ok, c.want, c.ok)
		}
	}
	d := newDice(182)
	for range 3000 {
		l := d.states()
		for _, name := range texts() {
			want, ok := book(l)[name]
			if !want.Chan.Alive {
				want, ok = api.State{}, false
			}
			if got, is := Find(l, name); got != want || is != ok {
				t.Fatalf("Find %q in %+v: %+v, %t", name, l, got, is)
			}
		}
	}
	for _, name := range texts() {
		for _, l := range [][]api.State{nil, {}} {
			if got, ok := Find(l, name); got != (api.State{}) || ok {
				t.Errorf("Find %q in none: %+v, %t", name, got, ok)
			}
		}
	}
}

func TestP18_3Records(t *testing.T) {
	want := []api.Chan{
		alive("b", 3, 1, api.KMean, 4), alive("c", 2, 0, api.KCount, 1000), gone("d", 2, 5, api.KExt, 1), alive("e", 7, 3, api.KExt, 1),
		alive("f", 1, 15, api.KExt, 1), gone("g", lastEpoch, 0, api.KMean, 9), alive("q", lastEpoch, 4, api.KSquare, 4),
	}
	if got := Records(mixed()); !slices.Equal(got, want) {
		t.Errorf("Records: %+v", got)
	}
	if got := append(Records(nil), Records([]api.State{})...); len(got) > 0 {
		t.Errorf("Records of none: %+v", got)
	}
	d := newDice(183)
	for range 2000 {
		l := d.states()
		got := Records(l)
		if len(got) != len(l) || !dir.Fits(got) {
			t.Fatalf("Records of %+v: %+v", l, got)
		}
		for i, c := range got {
			if c != l[i].Chan {
				t.Fatalf("Records of %+v: %+v", l, got)
			}
		}
	}
}

func TestP18_3Own(t *testing.T) {
	l := mixed()
	for _, c := range []struct {
		name string
		c    api.Chan
		want bool
	}{
		{"the record itself", alive("b", 3, 1, api.KMean, 4), true},
		{"of KExt", alive("e", 7, 3, api.KExt, 1), true},
		{"with the last Epoch", alive("q", lastEpoch, 4, api.KSquare, 4), true},
		{"another kind", alive("b", 3, 1, api.KSquare, 4), true},
		{"another scale", alive("b", 3, 1, api.KMean, 5), true},
		{"it is not alive", gone("b", 3, 1, api.KMean, 4), false},
		{"a greater Epoch", alive("b", 4, 1, api.KMean, 4), false},
		{"a smaller Epoch", alive("b", 2, 1, api.KMean, 4), false},
		{"a greater Maker", alive("b", 3, 2, api.KMean, 4), false},
		{"a smaller Maker", alive("b", 3, 0, api.KMean, 4), false},
		{"Epoch and Maker of another name", alive("b", 7, 3, api.KExt, 1), false},
		{"a name that is not there", alive("a", 3, 1, api.KMean, 4), false},
		{"one that is not alive there", alive("d", 2, 5, api.KExt, 1), false},
		{"neither is alive", gone("d", 2, 5, api.KExt, 1), false},
	} {
		if got := Own(l, c.c); got != c.want {
			t.Errorf("%s: Own %+v: %t", c.name, c.c, got)
		}
		if Own(nil, c.c) || Own([]api.State{}, c.c) {
			t.Errorf("%s: Own of none", c.name)
		}
	}
	d, own := newDice(1832), 0
	for range 20000 {
		l, c := d.states(), d.record(pick(d, twelve()))
		s, have := book(l)[c.Name]
		want := have && s.Chan.Alive && c.Alive && s.Chan.Epoch == c.Epoch && s.Chan.Maker == c.Maker
		if got := Own(l, c); got != want {
			t.Fatalf("Own(%+v, %+v): %t", l, c, got)
		}
		if want {
			own++
		}
	}
	if own < 100 {
		t.Errorf("%d are own ones", own)
	}
}

type learnCase struct {
	name string
	l    []api.State
	c    api.Chan
	want []api.State
	what int
}

func learns(t *testing.T, cases []learnCase) {
	t.Helper()
	for _, c := range cases {
		ok := c.what == api.LnAdded || c.what == api.LnNewer
		if _, what := dir.Learn(Records(c.l), c.c); what != c.what {
			t.Fatalf("%s: the case itself is wrong: %d", c.name, what)
		}
		if l, is := sayLearn(c.l, c.c); !slices.Equal(l, c.want) || is != ok {
			t.Fatalf("%s: the case itself is wrong: %+v, %t", c.name, l, is)
		}
		if l, is := Learn(c.l, c.c); !slices.Equal(l, c.want) || is != ok {
			t.Errorf("%s: Learn(%+v, %+v): %+v, %t, want %+v, %t", c.name, c.l, c.c, l, is, c.want, ok)
		}
	}
}

// Each of what becomes of a record, with a state that has an input and extreme values.
func TestP18_4Learn(t *testing.T) {
	a, m, z := with(alive("a", 9, 9, api.KMean, 2), 18), rich("m", 2, 5, -7, of(-9, 1, 2), of(8, 4, 63)), bare(gone("z", 1, 1, api.KMean, 1))
	l := []api.State{a, m, z}
	at := func(c api.Chan) []api.State { return []api.State{a, bare(c), z} }
	newer := []api.Chan{
		alive("m", 3, 5, api.KExt, 1), alive("m", 3, 15, api.KExt, 1), alive("m", 2, 4, api.KExt, 1), alive("m", 2, 0, api.KMean, 7),
		gone("m", 3, 0, api.KExt, 1), gone("m", 2, 1, api.KExt, 1), alive("m", lastEpoch, 5, api.KSquare, mostScale),
	}
	var cases []learnCase
	for _, c := range newer {
		cases = append(cases, learnCase{"newer", l, c, at(c), api.LnNewer}, learnCase{"newer, alone", l[1:2], c, []api.State{bare(c)}, api.LnNewer})
	}
	for _, c := range []api.Chan{alive("m", 1, 0, api.KExt, 1), alive("m", 2, 6, api.KExt, 1), gone("m", 1, 5, api.KExt, 1), alive("m", 1, 15, api.KMean, 3)} {
		cases = append(cases, learnCase{"older", l, c, l, api.LnOlder}, learnCase{"older, alone", l[1:2], c, l[1:2], api.LnOlder})
	}
	for _, c := range []api.Chan{m.Chan, gone("m", 2, 5, api.KExt, 1), alive("m", 2, 5, api.KMean, 9)} {
		cases = append(cases, learnCase{"the same", l, c, l, api.LnSame}, learnCase{"the same, alone", l[1:2], c, l[1:2], api.LnSame})
	}
	b, old := alive("b", 1, 1, api.KExt, 1), gone("zz", lastEpoch, 15, api.KCount, 4)
	cases = append(cases,
		learnCase{"added among none", nil, b, []api.State{bare(b)}, api.LnAdded},
		learnCase{"added to an empty list", []api.State{}, old, []api.State{bare(old)}, api.LnAdded},
		learnCase{"added between", l, b, []api.State{a, bare(b), m, z}, api.LnAdded},
		learnCase{"added at the end", l, old, []api.State{a, m, z, bare(old)}, api.LnAdded},
		learnCase{"added at the front", l[1:], b, []api.State{bare(b), m, z}, api.LnAdded},
		learnCase{"alive again", l, alive("z", 2, 9, api.KExt, 1), []api.State{a, m, bare(alive("z", 2, 9, api.KExt, 1))}, api.LnNewer},
		learnCase{"no room", full(), alive("m", 9, 0, api.KExt, 1), full(), api.LnFull},
		learnCase{"no room for what is not alive", full(), gone("m", 9, 0, api.KExt, 1), full(), api.LnFull},
		learnCase{"newer, in a full list", full(), gone("e", 8, 0, api.KExt, 1), slices.Replace(full(), 3, 4, bare(gone("e", 8, 0, api.KExt, 1))), api.LnNewer},
		learnCase{"older, in a full list", full(), gone("e", 6, 0, api.KExt, 1), full(), api.LnOlder},
		learnCase{"the last that there is room for", mixed(), alive("bb", 1, 1, api.KMean, 1), slices.Insert(mixed(), 1, bare(alive("bb", 1, 1, api.KMean, 1))), api.LnAdded},
	)
	learns(t, cases)
}

func TestP18_4LearnOfDrawnOnes(t *testing.T) {
	d, whats := newDice(184), map[int]int{}
	for range 20000 {
		l, c := d.states(), d.record(pick(d, twelve()))
		_, what := dir.Learn(Records(l), c)
		want, ok := sayLearn(l, c)
		if got, is := Learn(l, c); !slices.Equal(got, want) || is != ok || is != (what == api.LnAdded || what == api.LnNewer) {
			t.Fatalf("Learn(%+v, %+v): %+v, %t, want %+v, %t", l, c, got, is, want, ok)
		}
		whats[what]++
	}
	for _, what := range []int{api.LnOlder, api.LnSame, api.LnNewer, api.LnAdded, api.LnFull} {
		if whats[what] < 100 {
			t.Errorf("%d of %d", whats[what], what)
		}
	}
}

// Each error, in the order in which they are asked for, and what is made.
func TestP18_5Create(t *testing.T) {
	l := mixed()
	for _, c := range []struct {
		name  string
		l     []api.State
		made  string
		kind  int
		scale int64
		err   api.Errno
	}{
		{"no name", l, "", api.KMean, 1, api.ErrName},
		{"a great letter", l, "M", api.KMean, 1, api.ErrName},
		{"a name that is too long", l, "abcdefghijklmnopq", api.KMean, 1, api.ErrName},
		{"a name and a kind that are none", l, "M", 0, 0, api.ErrName},
		{"a kind below", l, "m", 0, 1, api.ErrKind},
		{"a kind beyond", l, "m", 5, 1, api.ErrKind},
		{"a kind and a scale that are none, of one that is there", l, "b", 5, 0, api.ErrKind},
		{"no scale", l, "m", api.KMean, 0, api.ErrScale},
		{"a scale beyond", l, "m", api.KCount, mostScale + 1, api.ErrScale},
		{"a scale below", l, "m", api.KSquare, -1, api.ErrScale},
		{"KExt with another scale", l, "m", api.KExt, 2, api.ErrScale},
		{"a scale that is none, of one that is there", l, "b", api.KMean, 0, api.ErrScale},
		{"it is there, with an input", l, "b", api.KMean, 4, api.ErrHave},
		{"it is there, with extreme values", l, "e", api.KExt, 1, api.ErrHave},
		{"it is there, with the last Epoch", l, "q", api.KExt, 1, api.ErrHave},
		{"it is there, in a full list", full(), "e", api.KExt, 1, api.ErrHave},
		{"too many", full(), "m", api.KMean, 1, api.ErrChans},
		{"no Epoch is left", l, "g", api.KMean, 1, api.ErrLast},
		{"no Epoch is left, in a full list", full(), "g", api.KMean, 1, api.ErrLast},
	} {
		if got, err := Create(c.l, 7, c.made, c.kind, c.scale); err != c.err || !slices.Equal(got, c.l) {
			t.Errorf("%s: %+v, %d, want the list as it was, %d", c.name, got, err, c.err)
		}
	}
	for _, c := range []struct {
		name string
		l    []api.State
		made api.Chan
		want []api.State
	}{
		{"among none", nil, alive("m", 1, 7, api.KMean, 4), []api.State{bare(alive("m", 1, 7, api.KMean, 4))}},
		{"at the front", l, alive("a", 1, 0, api.KExt, 1), slices.Insert(mixed(), 0, bare(alive("a", 1, 0, api.KExt, 1)))},
		{"between", l, alive("m", 1, 15, api.KCount, mostScale), slices.Insert(mixed(), 6, bare(alive("m", 1, 15, api.KCount, mostScale)))},
		{"at the end", l, alive("zzzzzzzzzzzzzzzz", 1, 7, api.KSquare, 1), append(mixed(), bare(alive("zzzzzzzzzzzzzzzz", 1, 7, api.KSquare, 1)))},
		{"one that is not alive", l, alive("d", 3, 7, api.KSquare, 2), slices.Replace(mixed(), 2, 3, bare(alive("d", 3, 7, api.KSquare, 2)))},
		{"one that is not alive, in a full list", full(), alive("d", 3, 7, api.KExt, 1), slices.Replace(full(), 2, 3, bare(alive("d", 3, 7, api.KExt, 1)))},
	} {
		if got, err := Create(c.l, c.made.Maker, c.made.Name, c.made.Kind, c.made.Scale); err != api.OK || !slices.Equal(got, c.want) {
			t.Errorf("%s: %+v, %d, want %+v", c.name, got, err, c.want)
		}
	}
}

func TestP18_5Delete(t *testing.T) {
	l := mixed()
	for _, c := range []struct {
		name string
		l    []api.State
		gone string
		err  api.Errno
	}{
		{"of none", nil, "m", api.ErrNone}, {"it is not there", l, "m", api.ErrNone}, {"no name", l, "", api.ErrNone}, {"no name either", l, "B", api.ErrNone},
		{"it is not alive", l, "d", api.ErrNone}, {"it is not alive, with the last Epoch", l, "g", api.ErrNone}, {"no Epoch is left", l, "q", api.ErrLast},
	} {
		if got, err := Delete(c.l, 7, c.gone); err != c.err || !slices.Equal(got, c.l) {
			t.Errorf("%s: %+v, %d, want the list as it was, %d", c.name, got, err, c.err)
		}
	}
	for _, c := range []struct {
		at   int
		id   int
		want api.Chan
	}{
		{0, 7, gone("b", 4, 7, api.KMean, 4)}, {1, 0, gone("c", 3, 0, api.KCount, 1000)}, {3, 15, gone("e", 8, 15, api.KExt, 1)}, {4, 7, gone("f", 2, 7, api.KExt, 1)},
	} {
		if got, err := Delete(l, c.id, c.want.Name); err != api.OK || !slices.Equal(got, slices.Replace(mixed(), c.at, c.at+1, bare(c.want))) {
			t.Errorf("Delete %s: %+v, %d", c.want.Name, got, err)
		}
	}
}

// An input and extreme values are gone behind Delete, and behind Create once more.
func TestP18_5NothingIsLeft(t *testing.T) {
	for _, kind := range []int{api.KMean, api.KCount, api.KSquare, api.KExt} {
		l, err := Create(nil, 3, "m", api.KExt, 1)
		if err != api.OK {
			t.Fatal(err)
		}
		l, err = Set(l, 3, "m", 5)
		l = Hear(l, 3, "m", of(1, 2, 3), of(9, 2, 3))
		if err != api.OK || !slices.Equal(l, []api.State{rich("m", 1, 3, 5, of(1, 2, 3), of(9, 2, 3))}) {
			t.Fatalf("%+v, %d", l, err)
		}
		l, err = Delete(l, 4, "m")
		if err != api.OK || !slices.Equal(l, []api.State{bare(gone("m", 2, 4, api.KExt, 1))}) {
			t.Errorf("Delete: %+v, %d", l, err)
		}
		l, err = Create(l, 5, "m", kind, 1)
		if err != api.OK || !slices.Equal(l, []api.State{bare(alive("m", 3, 5, kind, 1))}) {
			t.Errorf("Create: %+v, %d", l, err)
		}
	}
}

func TestP18_5OfDrawnOnes(t *testing.T) {
	d, created, deleted := newDice(185), map[api.Errno]int{}, map[api.Errno]int{}
	for range 30000 {
		l, id, name, kind := d.states(), d.node(), pick(d, twelve()), d.kind()
		scale := d.scale(kind)
		switch d.Intn(12) {
		case 0:
			name = pick(d, texts())
		case 1:
			kind = pick(d, kinds())
		case 2:
			scale = pick(d, scales())
		}
		want, wantErr := sayCreate(l, id, name, kind, scale)
		if got, err := Create(l, id, name, kind, scale); !slices.Equal(got, want) || err != wantErr {
			t.Fatalf("Create(%+v, %d, %q, %d, %d): %+v, %d, want %+v, %d", l, id, name, kind, scale, got, err, want, wantErr)
		}
		if _, err := dir.Create(Records(l), id, name, kind, scale); err != wantErr {
			t.Fatalf("dir.Create(%+v, %d, %q, %d, %d): %d, want %d", l, id, name, kind, scale, err, wantErr)
		}
		created[wantErr]++
		want, wantErr = sayDelete(l, id, name)
		if got, err := Delete(l, id, name); !slices.Equal(got, want) || err != wantErr {
			t.Fatalf("Delete(%+v, %d, %q): %+v, %d, want %+v, %d", l, id, name, got, err, want, wantErr)
		}
		deleted[wantErr]++
	}
	for _, err := range []api.Errno{api.OK, api.ErrName, api.ErrKind, api.ErrScale, api.ErrHave, api.ErrChans, api.ErrLast} {
		if created[err] < 100 {
			t.Errorf("Create: %d of %d", created[err], err)
		}
	}
	for _, err := range []api.Errno{api.OK, api.ErrNone, api.ErrLast} {
		if deleted[err] < 100 {
			t.Errorf("Delete: %d of %d", deleted[err], err)
		}
	}
}

func TestP18_7Tick(t *testing.T) {
	l := []api.State{
		with(alive("b", 3, 1, api.KMean, 4), 20), with(alive("c", 2, 0, api.KCount, 9), 9), bare(gone("d", 2, 5, api.KExt, 1)),
		rich("e", 7, 3, -7, of(-9, 1, 2), of(-7, 3, 0)),                             // with an input
		rich("f", 7, 3, 5, of(3, 2, 0), of(9, 4, 63)),                               // a value of 2 itself, and one that is forgotten
		{Chan: alive("g", 1, 1, api.KExt, 1), Min: of(-1, 2, 0), Max: of(1, 5, 62)}, // without an input
		bare(alive("h", 1, 1, api.KExt, 1)), with(alive("q", 1, 4, api.KSquare, 4), 36),
	}
	want := []api.State{
		l[0], l[1], l[2],
		rich("e", 7, 3, -7, of(-9, 1, 3), of(-7, 2, 0)),
		rich("f", 7, 3, 5, of(5, 2, 0), of(5, 2, 0)),
		{Chan: alive("g", 1, 1, api.KExt, 1), Max: of(1, 5, 63)},
		l[6], l[7],
	}
	if got := Tick(l, 2); !slices.Equal(got, want) {
		t.Errorf("Tick: %+v, want %+v", got, want)
	}
	later := Tick(want, 2)
	if later[5] != bare(alive("g", 1, 1, api.KExt, 1)) || later[3].Min != of(-9, 1, 4) {
		t.Errorf("Tick once more: %+v", later)
	}
	if got := append(Tick(nil, 2), Tick([]api.State{}, 2)...); len(got) > 0 {
		t.Errorf("Tick of none: %+v", got)
	}
}

func TestP18_7Hear(t *testing.T) {
	l := []api.State{
		with(alive("b", 3, 1, api.KMean, 4), 20), with(alive("c", 2, 0, api.KCount, 9), 9), bare(gone("d", 2, 5, api.KExt, 1)),
		rich("e", 7, 3, -7, of(-9, 1, 2), of(-7, 2, 0)), bare(alive("f", 1, 1, api.KExt, 1)), with(alive("q", 1, 4, api.KSquare, 4), 36),
	}
	e := func(least, greatest api.Ext) api.State { return rich("e", 7, 3, -7, least, greatest) }
	f := func(least, greatest api.Ext) api.State {
		return api.State{Chan: alive("f", 1, 1, api.KExt, 1), Min: least, Max: greatest}
	}
	for _, c := range []struct {
		name            string
		channel         string
		least, greatest api.Ext
		at              int
		want            api.State
	}{
		{"KMean", "b", of(-most, 1, 0), of(most, 1, 0), 0, l[0]},
		{"KCount", "c", of(-most, 1, 0), of(most, 1, 0), 1, l[1]},
		{"KSquare", "q", of(-most, 1, 0), of(most, 1, 0), 5, l[5]},
		{"not alive", "d", of(-most, 1, 0), of(most, 1, 0), 2, l[2]},
		{"not there", "m", of(-most, 1, 0), of(most, 1, 0), 0, l[0]},
		{"no name", "", of(-most, 1, 0), of(most, 1, 0), 0, l[0]},
		{"both hold", "e", of(-10, 1, 63), of(4, 5, 9), 3, e(of(-10, 1, 63), of(4, 5, 9))},
		{"the least one holds", "e", of(-10, 1, 63), of(-8, 5, 9), 3, e(of(-10, 1, 63), of(-7, 2, 0))},
		{"the greatest one holds", "e", of(-8, 1, 0), of(-6, 5, 9), 3, e(of(-9, 1, 2), of(-6, 5, 9))},
		{"a younger one", "e", of(-9, 1, 1), none, 3, e(of(-9, 1, 1), of(-7, 2, 0))},
		{"none", "e", none, none, 3, l[3]},
		{"the node's own", "e", of(-10, 2, 0), of(4, 2, 0), 3, l[3]},
		{"the greatest one told as the least", "f", of(5, 1, 0), none, 4, f(of(5, 1, 0), none)},
		{"without an input", "f", of(5, 1, 0), of(3, 0, 63), 4, f(of(5, 1, 0), of(3, 0, 63))},
		{"the node's own, without an input", "f", of(5, 2, 0), of(3, 0, 63), 4, f(none, of(3, 0, 63))},
	} {
		want := slices.Clone(l)
		want[c.at] = c.want
		if got := Hear(l, 2, c.channel, c.least, c.greatest); !slices.Equal(got, want) {
			t.Errorf("%s: %+v, want %+v", c.name, got, want)
		}
	}
	if got := append(Hear(nil, 2, "e", of(1, 1, 1), none), Hear([]api.State{}, 2, "", none, none)...); len(got) > 0 {
		t.Errorf("Hear of none: %+v", got)
	}
}

// Against the model, and against what ext answers of the parts.
func TestP18_7OfDrawnOnes(t *testing.T) {
	d, told := newDice(187), 0
	for range 20000 {
		l, id, name, least, greatest := d.states(), d.node(), pick(d, twelve()), d.ext(), d.ext()
		ticked, heard := Tick(l, id), Hear(l, id, name, least, greatest)
		if want := sayTick(l, id); !slices.Equal(ticked, want) {
			t.Fatalf("Tick(%+v, %d): %+v, want %+v", l, id, ticked, want)
		}
		if want := sayHear(l, id, name, least, greatest); !slices.Equal(heard, want) {
			t.Fatalf("Hear(%+v, %d, %q, %+v, %+v): %+v, want %+v", l, id, name, least, greatest, heard, want)
		}
		for i, s := range l {
			if !s.Chan.Alive || s.Chan.Kind != api.KExt {
				continue
			}
			low, high := ext.Tick(id, s.Has, s.Input, s.Min, s.Max)
			if ticked[i].Min != low || ticked[i].Max != high {
				t.Fatalf("Tick of %+v: %+v", s, ticked[i])
			}
			if low, high = ext.Hear(id, s.Min, s.Max, least, greatest); s.Chan.Name == name && (heard[i].Min != low || heard[i].Max != high) {
				t.Fatalf("Hear of %+v: %+v", s, heard[i])
			}
			if heard[i] != s {
				told++
			}
		}
	}
	if told < 500 {
		t.Errorf("%d times something was heard", told)
	}
}

func TestP18_8Copy(t *testing.T) {
	d := newDice(188)
	for range 2000 {
		if l := d.states(); !slices.Equal(Copy(l), l) {
			t.Fatalf("Copy of %+v: %+v", l, Copy(l))
		}
		if l := []api.State{d.unfit(), d.unfit()}; !slices.Equal(Copy(l), l) {
			t.Fatalf("Copy of %+v: %+v", l, Copy(l))
		}
	}
	if len(Copy(nil)) > 0 || len(Copy([]api.State{})) > 0 {
		t.Error("Copy of none")
	}
}

// Lists that differ in each field, at each place, fit or not, and in their lengths.
func TestP18_8Same(t *testing.T) {
	changes := []func(s *api.State){
		func(s *api.State) { s.Chan.Name += "x" }, func(s *api.State) { s.Chan.Epoch++ }, func(s *api.State) { s.Chan.Maker++ },
		func(s *api.State) { s.Chan.Alive = !s.Chan.Alive }, func(s *api.State) { s.Chan.Kind++ }, func(s *api.State) { s.Chan.Scale++ },
		func(s *api.State) { s.Has = !s.Has }, func(s *api.State) { s.Input++ },
		func(s *api.State) { s.Min.Has = !s.Min.Has }, func(s *api.State) { s.Min.Value++ }, func(s *api.State) { s.Min.Origin++ }, func(s *api.State) { s.Min.Age++ },
		func(s *api.State) { s.Max.Has = !s.Max.Has }, func(s *api.State) { s.Max.Value++ }, func(s *api.State) { s.Max.Origin++ }, func(s *api.State) { s.Max.Age++ },
		func(s *api.State) { s.Min, s.Max = of(1, 2, 3), of(4, 5, 6) },
	}
	for _, l := range [][]api.State{mixed(), full(), {{}, {}}, {mixed()[3]}} {
		if !Same(l, slices.Clone(l)) {
			t.Errorf("Same of %+v with itself", l)
		}
		for i := range l {
			for k, change := range changes {
				other := slices.Clone(l)
				change(&other[i])
				if Same(l, other) || Same(other, l) {
					t.Errorf("change %d at %d: the same as %+v", k, i, l)
				}
			}
			if Same(l, l[:i]) || Same(l[:i], l) || Same(l, slices.Delete(slices.Clone(l), i, i+1)) || Same(l, slices.Insert(slices.Clone(l), i, l[i])) {
				t.Errorf("another length at %d: the same as %+v", i, l)
			}
		}
	}
	a, b := mixed()[0], mixed()[1]
	if Same([]api.State{a, b}, []api.State{b, a}) {
		t.Error("another order")
	}
	if !Same(nil, nil) || !Same(nil, []api.State{}) || !Same([]api.State{}, nil) || !Same([]api.State{}, []api.State{}) {
		t.Error("none and none")
	}
	if Same(nil, []api.State{{}}) || Same([]api.State{{}}, nil) {
		t.Error("none and one")
	}
	if Same([]api.State{{Input: 1 << 32}}, []api.State{{}}) || Same([]api.State{{Input: -1}}, []api.State{{Input: 1}}) {
		t.Error("inputs that differ")
	}
}
