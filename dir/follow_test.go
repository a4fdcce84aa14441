package dir

import (
	"slices"
	"testing"

	"eddy/api"
)

// small are all lists of three names, each with no record or with one of four stamps.
func small() [][]api.Chan {
	all := [][]api.Chan{nil}
	for _, name := range []string{"a", "ab", "m"} {
		for _, l := range slices.Clone(all) {
			for _, s := range [][2]int{{1, 0}, {1, 2}, {2, 0}, {2, 1}} {
				all = append(all, append(slices.Clone(l), stamped(name, int64(s[0]), s[1])))
			}
		}
	}
	return all
}

// newest is of each name the newest record that any of some lists has.
func newest(lists ...[]api.Chan) []api.Chan {
	m := map[string]api.Chan{}
	for _, c := range slices.Concat(lists...) {
		if old, have := m[c.Name]; !have || sayNewer(c, old) {
			m[c.Name] = c
		}
	}
	return list(m)
}

// grouped holds Merge of three lists to what must not play a part: their order, and their grouping.
func grouped(t *testing.T, a, b, c []api.Chan) {
	t.Helper()
	want := newest(a, b, c)
	ways := [][]api.Chan{
		Merge(Merge(a, b), c), Merge(a, Merge(b, c)), Merge(Merge(a, c), b), Merge(Merge(b, a), c),
		Merge(c, Merge(a, b)), Merge(b, Merge(c, a)), Merge(Merge(c, b), a),
	}
	for i, got := range ways {
		if !slices.Equal(got, want) {
			t.Fatalf("%+v, %+v, %+v: way %d: %+v, want %+v", a, b, c, i, got, want)
		}
	}
}

// paired holds Merge of two lists to be the same either way round, and of one with itself to be it.
func paired(t *testing.T, a, b []api.Chan) {
	t.Helper()
	x, y, want := Merge(a, b), Merge(b, a), newest(a, b)
	if !slices.Equal(x, want) || !slices.Equal(y, want) {
		t.Fatalf("Merge of %+v, %+v: %+v, the other way round %+v, want %+v", a, b, x, y, want)
	}
	for _, l := range [][]api.Chan{a, x} {
		if again := Merge(l, l); !slices.Equal(again, l) {
			t.Fatalf("Merge of %+v with itself: %+v", l, again)
		}
	}
	if again := Merge(x, b); !slices.Equal(again, x) {
		t.Fatalf("Merge of %+v, %+v once more: %+v, was %+v", a, b, again, x)
	}
}

func TestP17_9OrderAndGrouping(t *testing.T) {
	all := small()
	if len(all) != 125 {
		t.Fatalf("%d lists", len(all))
	}
	for _, a := range all {
		for _, b := range all {
			paired(t, a, b)
		}
	}
	for _, a := range all {
		for _, b := range all[:40] {
			for _, c := range all[20:60] {
				grouped(t, a, b, c)
			}
		}
	}
}

// With as many names about as there is room for.
func TestP17_9OrderAndGroupingOfMore(t *testing.T) {
	d, full := newDice(179), 0
	for range 20000 {
		a, b, c := d.agreeing(), d.agreeing(), d.agreeing()
		paired(t, a, b)
		grouped(t, a, b, c)
		if len(newest(a, b, c)) == api.MaxChans {
			full++
		}
	}
	if full < 2000 {
		t.Errorf("%d of 20000 have all names", full)
	}
}

// A list with itself is it, whatever it has, unlike ones of one stamp elsewhere or not.
func TestP17_9WithItself(t *testing.T) {
	d := newDice(1792)
	for range 10000 {
		l := d.any()
		if got := Merge(l, l); !slices.Equal(got, l) {
			t.Fatalf("Merge of %+v with itself: %+v", l, got)
		}
		for _, c := range l {
			if got, what := Learn(l, c); what != api.LnSame || !slices.Equal(got, l) {
				t.Fatalf("Learn(%+v, %+v): %+v, %d", l, c, got, what)
			}
		}
	}
}

// Nodes make channels and take them away, and tell each other what they have, in any order, late and twice: once all
// have told all, all have the same, and of each name the newest that was ever made.
func TestP17_9TheSameEverywhere(t *testing.T) {
	d, made := newDice(1793), 0
	for range 60 {
		lists := make([][]api.Chan, api.MaxNodes)
		var ever, late [][]api.Chan
		for range 300 {
			i, j := d.Intn(len(lists)), d.Intn(len(lists))
			name, err := eight()[d.Intn(api.MaxChans)], api.ErrNone
			switch d.Intn(6) {
			case 0:
				lists[i], err = Create(lists[i], i, name, api.KExt, 1)
			case 1:
				lists[i], err = Delete(lists[i], i, name)
			case 2:
				lists[i] = Merge(lists[i], lists[j])
			case 3:
				late = append(late, lists[j])
			default:
				if len(late) > 0 {
					lists[i] = Merge(lists[i], late[d.Intn(len(late))])
				}
			}
			if err == api.OK {
				made++
				ever = append(ever, lists[i])
			}
		}
		for _, i := range append(d.Perm(len(lists)), d.Perm(len(lists))...) {
			for _, j := range d.Perm(len(lists)) {
				lists[j] = Merge(lists[j], lists[i])
			}
		}
		want := newest(ever...)
		for i, l := range lists {
			if !slices.Equal(l, want) {
				t.Fatalf("%d has %+v, want %+v", i, l, want)
			}
		}
	}
	if made < 2000 {
		t.Errorf("%d records were made", made)
	}
}

// goesUp holds a list to what it was: fit, no name gone, and no record older; the records of all but one name are as
// they were, if a name is told.
func goesUp(t *testing.T, call string, was, is []api.Chan, name string) {
	t.Helper()
	if !Fits(is) || !sayFits(is) {
		t.Fatalf("%s: %+v is not fit, behind %+v", call, is, was)
	}
	before, behind := book(was), book(is)
	for n, old := range before {
		c, have := behind[n]
		if !have || sayNewer(old, c) || c != old && !sayNewer(c, old) || name != "" && n != name && c != old {
			t.Fatalf("%s: of %s there is %+v, was %+v", call, n, c, old)
		}
	}
	for n := range behind {
		if _, have := before[n]; !have && name != "" && n != name {
			t.Fatalf("%s: %s has come", call, n)
		}
	}
}

// makes holds what Create and Delete have made to be newer than what was there.
func makes(t *testing.T, call string, was, is []api.Chan, name string) {
	t.Helper()
	old, have := book(was)[name]
	c, stands := book(is)[name]
	if !stands || have && (!Newer(c, old) || Newer(old, c) || c.Epoch != old.Epoch+1) || !have && c.Epoch != 1 {
		t.Fatalf("%s: %+v is made, was %+v", call, c, old)
	}
	if l, what := Learn(was, c); what != api.LnNewer && what != api.LnAdded || !slices.Equal(l, is) {
		t.Fatalf("%s: Learn of what is made: %+v, %d, want %+v", call, l, what, is)
	}
	if l, what := Learn(is, old); have && (what != api.LnOlder || !slices.Equal(l, is)) {
		t.Fatalf("%s: Learn of what was there: %+v, %d", call, l, what)
	}
}

// Long rows of all calls that give out lists, from nothing on and from lists that are drawn.
func TestP17_10And11OnlyEverUp(t *testing.T) {
	d, sizes, told, whats := newDice(1710), map[int]int{}, map[api.Errno]int{}, map[int]int{}
	for i := range 200 {
		var l []api.Chan
		if i%3 > 0 {
			l = d.any()
		}
		for range 150 {
			was, name := slices.Clone(l), twelve()[d.Intn(12)]
			switch d.Intn(6) {
			case 0, 1:
				err := api.OK
				if l, err = Create(l, d.maker(), name, 1+d.Intn(4), 1+d.Int63n(2)); err == api.OK {
					makes(t, "Create", was, l, name)
				}
				goesUp(t, "Create", was, l, name)
				told[err]++
			case 2, 3:
				err := api.OK
				if l, err = Delete(l, d.maker(), name); err == api.OK {
					makes(t, "Delete", was, l, name)
				}
				goesUp(t, "Delete", was, l, name)
				told[err]++
			case 4:
				what := 0
				l, what = Learn(l, as(d.record(name), func(c *api.Chan) { c.Epoch = 1 + c.Epoch%40 }))
				goesUp(t, "Learn", was, l, name)
				whats[what]++
			default:
				if d.Intn(10) == 0 {
					l = Merge(l, d.any())
					goesUp(t, "Merge", was, l, "")
				}
			}
			sizes[len(l)]++
		}
	}
	for _, e := range []api.Errno{api.OK, api.ErrHave, api.ErrNone, api.ErrChans, api.ErrLast} {
		if told[e] < 100 {
			t.Errorf("errors %v", told)
		}
	}
	for what := api.LnOlder; what <= api.LnFull; what++ {
		if what != api.LnSame && whats[what] < 50 {
			t.Errorf("learned %v", whats)
		}
	}
	if sizes[0] == 0 || sizes[1] == 0 || sizes[api.MaxChans] < 1000 {
		t.Errorf("sizes %v", sizes)
	}
}

// A name's epochs are counted one by one, up to the last one; then nothing more is made.
func TestP17_10EpochsAreCounted(t *testing.T) {
	for _, first := range []int64{1, 1000, lastEpoch - 9} {
		l := []api.Chan{alive("m", first, 3, api.KMean, 4)}
		for epoch := first + 1; epoch <= min(first+20, lastEpoch); epoch++ {
			was, err := l, api.OK
			if l[0].Alive {
				l, err = Delete(l, int(epoch%16), "m")
			} else {
				l, err = Create(l, int(epoch%16), "m", api.KMean, 4)
			}
			if err != api.OK || l[0].Epoch != epoch || l[0].Maker != int(epoch%16) || l[0].Alive == was[0].Alive {
				t.Fatalf("epoch %d: %+v, %d", epoch, l, err)
			}
		}
		if l[0].Epoch < lastEpoch {
			continue
		}
		for _, last := range [][]api.Chan{{gone("m", lastEpoch, 3, api.KMean, 4)}, {alive("m", lastEpoch, 3, api.KMean, 4)}} {
			created, ce := Create(last, 0, "m", api.KMean, 4)
			deleted, de := Delete(last, 0, "m")
			if ce == api.OK || de == api.OK || !slices.Equal(created, last) || !slices.Equal(deleted, last) {
				t.Errorf("%+v: %+v, %d, %+v, %d", last, created, ce, deleted, de)
			}
		}
	}
}

// All calls at fit arguments give out fit lists.
func TestP17_11ListsStayFit(t *testing.T) {
	d := newDice(1711)
	fit := func(call string, l []api.Chan) {
		t.Helper()
		if !Fits(l) || !sayFits(l) {
			t.Fatalf("%s: %+v", call, l)
		}
	}
	for range 20000 {
		l, more, name := d.any(), d.any(), texts()[d.Intn(len(texts()))]
		learned, _ := Learn(l, d.record(twelve()[d.Intn(12)]))
		fit("Learn", learned)
		fit("Merge", Merge(l, more))
		created, _ := Create(l, d.Intn(api.MaxNodes), name, kinds()[d.Intn(len(kinds()))], scales()[d.Intn(len(scales()))])
		fit("Create", created)
		deleted, _ := Delete(l, d.Intn(api.MaxNodes), name)
		fit("Delete", deleted)
		fit("Alive", Alive(l))
		if c, ok := Find(l, name); ok && !Fit(c) {
			t.Fatalf("Find: %+v", c)
		}
	}
}
