package dir

import (
	"math"
	"math/rand"
	"slices"
	"strings"
	"testing"

	"eddy/api"
)

const (
	lastEpoch = int64(1) << 40
	mostScale = int64(1) << 20
)

// alive and gone are records as the document's examples write them.
func alive(name string, epoch int64, maker, kind int, scale int64) api.Chan {
	return api.Chan{Name: name, Epoch: epoch, Maker: maker, Alive: true, Kind: kind, Scale: scale}
}

func gone(name string, epoch int64, maker, kind int, scale int64) api.Chan {
	return api.Chan{Name: name, Epoch: epoch, Maker: maker, Kind: kind, Scale: scale}
}

// stamped is the record of a stamp: what else it says hangs on its name and stamp alone, as it does where no node has
// forgotten what it made.
func stamped(name string, epoch int64, maker int) api.Chan {
	k := int(epoch)*31 + maker*7 + len(name)*3 + int(name[0])
	c := api.Chan{Name: name, Epoch: epoch, Maker: maker, Alive: k%3 > 0, Kind: 1 + (k&0xffff)%4, Scale: 1}
	if c.Kind != api.KExt {
		c.Scale = 1 + int64(k&0xffff)%mostScale
	}
	return c
}

// as is a record with something changed.
func as(c api.Chan, change func(c *api.Chan)) api.Chan {
	change(&c)
	return c
}

// named are records that are alike but for their names.
func named(names ...string) []api.Chan {
	var l []api.Chan
	for _, n := range names {
		l = append(l, alive(n, 3, 5, api.KMean, 4))
	}
	return l
}

// eight are as many names as a list can have, rising.
func eight() []string { return []string{"0", "9z", "_", "a", "a0", "abcdefghijklmnop", "m", "z"} }

const letters = "abcdefghijklmnopqrstuvwxyz0123456789_"

// sayName says by the document's words what is a name: all that is no letter is taken away, and nothing was.
func sayName(s string) bool {
	left := 0
	for _, b := range []byte(s) {
		if strings.IndexByte(letters, b) >= 0 {
			left++
		}
	}
	return left == len(s) && left != 0 && left < 17
}

// sayFit says by the document's words what is a fit record.
func sayFit(c api.Chan) bool {
	switch {
	case !sayName(c.Name), c.Epoch < 1, c.Epoch > 1<<40, c.Maker < 0, c.Maker > 15, c.Scale < 1, c.Scale > 1<<20:
		return false
	}
	switch c.Kind {
	case 1, 2, 3:
		return true
	case 4:
		return c.Scale == 1
	}
	return false
}

// sayFits says what is a fit list: few enough, each one fit, and each name ahead of all behind it.
func sayFits(l []api.Chan) bool {
	for i, c := range l {
		if !sayFit(c) {
			return false
		}
		for _, behind := range l[i+1:] {
			if strings.Compare(c.Name, behind.Name) >= 0 {
				return false
			}
		}
	}
	return len(l) < 9
}

func sayNewer(a, b api.Chan) bool {
	return a.Epoch > b.Epoch || a.Epoch == b.Epoch && a.Maker < b.Maker
}

// book is records by their names: what a list is, whatever its order.
func book(l []api.Chan) map[string]api.Chan {
	m := map[string]api.Chan{}
	for _, c := range l {
		m[c.Name] = c
	}
	return m
}

// list is the rising list of records by names.
func list(m map[string]api.Chan) []api.Chan {
	var l []api.Chan
	for _, c := range m {
		l = append(l, c)
	}
	slices.SortFunc(l, func(a, b api.Chan) int { return strings.Compare(a.Name, b.Name) })
	return l
}

// sayLearn says what is learned, and what comes of it.
func sayLearn(l []api.Chan, c api.Chan) ([]api.Chan, int) {
	m := book(l)
	old, have := m[c.Name]
	what := api.LnSame
	switch {
	case !have && len(m) == 8:
		what = api.LnFull
	case !have:
		what = api.LnAdded
	case sayNewer(c, old):
		what = api.LnNewer
	case sayNewer(old, c):
		what = api.LnOlder
	}
	if what == api.LnAdded || what == api.LnNewer {
		m[c.Name] = c
	}
	return list(m), what
}

// sayMerge learns one by one, in order.
func sayMerge(l, more []api.Chan) []api.Chan {
	for _, c := range more {
		l, _ = sayLearn(l, c)
	}
	return l
}

// sayCreate says the first error that applies, and else what is made.
func sayCreate(l []api.Chan, maker int, name string, kind int, scale int64) ([]api.Chan, api.Errno) {
	m := book(l)
	old, have := m[name]
	for _, e := range []struct {
		applies bool
		err     api.Errno
	}{
		{!sayName(name), api.ErrName},
		{kind < 1 || kind > 4, api.ErrKind},
		{scale < 1 || scale > 1<<20 || kind == 4 && scale > 1, api.ErrScale},
		{have && old.Alive, api.ErrHave},
		{!have && len(m) == 8, api.ErrChans},
		{have && old.Epoch == 1<<40, api.ErrLast},
	} {
		if e.applies {
			return l, e.err
		}
	}
	m[name] = alive(name, 1, maker, kind, scale)
	if have {
		m[name] = alive(name, old.Epoch+1, maker, kind, scale)
	}
	return list(m), api.OK
}

func sayDelete(l []api.Chan, maker int, name string) ([]api.Chan, api.Errno) {
	m := book(l)
	old, have := m[name]
	switch {
	case !have || !old.Alive:
		return l, api.ErrNone
	case old.Epoch == 1<<40:
		return l, api.ErrLast
	}
	m[name] = gone(name, old.Epoch+1, maker, old.Kind, old.Scale)
	return list(m), api.OK
}

// Numbers at and around the ends of their ranges, and some between.
func epochs() []int64 {
	return []int64{math.MinInt64, -lastEpoch, -1, 0, 1, 2, 1 << 32, lastEpoch - 1, lastEpoch, lastEpoch + 1, math.MaxInt64}
}

func makers() []int {
	return []int{math.MinInt, -1 << 32, -16, -1, 0, 1, 7, 14, 15, 16, 17, 1 << 32, math.MaxInt}
}

func kinds() []int {
	return []int{math.MinInt, -1 << 32, -4, -1, 0, 1, 2, 3, 4, 5, 6, 257, 1 << 32, 1<<32 + 1, math.MaxInt}
}

func scales() []int64 {
	return []int64{math.MinInt64, -mostScale, -1, 0, 1, 2, 4, mostScale - 1, mostScale, mostScale + 1, 1 << 32, 1<<32 + 1, math.MaxInt64}
}

// texts are names, and texts that are none.
func texts() []string {
	l := []string{"", "a", "z", "0", "9", "_", "m", "M", "A", "Z", "a b", " a", "a ", "a-b", "a\n", "\x00", "a\x00", "é", "aé", "\x80", "\xff", "ａ", "`", "{", "/", ":", "^", "@", "["}
	for _, n := range []int{2, 15, 16, 17, 18, 300} {
		l = append(l, strings.Repeat("q", n))
	}
	return append(l, eight()...)
}

// dice draws records and lists, by a fixed seed.
type dice struct{ *rand.Rand }

func newDice(seed int64) dice { return dice{rand.New(rand.NewSource(seed))} }

// epoch is one of few, so that many are alike, or one of the whole range.
func (d dice) epoch() int64 {
	switch d.Intn(8) {
	case 0:
		return lastEpoch - d.Int63n(2)
	case 1:
		return 1 + d.Int63n(lastEpoch)
	}
	return 1 + d.Int63n(3)
}

// maker is one of few, or any.
func (d dice) maker() int {
	if d.Intn(3) > 0 {
		return d.Intn(3)
	}
	return d.Intn(api.MaxNodes)
}

// record is a fit one: of one name and one stamp they are often unlike.
func (d dice) record(name string) api.Chan {
	c := api.Chan{Name: name, Epoch: d.epoch(), Maker: d.maker(), Alive: d.Intn(2) == 0, Kind: 1 + d.Intn(4), Scale: 1}
	if c.Kind != api.KExt {
		c.Scale = 1 + d.Int63n(mostScale)
	}
	return c
}

// twelve are more names than there is room for.
func twelve() []string { return append(eight(), "b", "m0", "zz", "zzzzzzzzzzzzzzzz") }

// records is a fit list of some of the names, made by a rule.
func (d dice) records(names []string, make func(name string) api.Chan) []api.Chan {
	names = slices.Clone(names)
	d.Shuffle(len(names), func(i, j int) { names[i], names[j] = names[j], names[i] })
	m := map[string]api.Chan{}
	for _, n := range names[:d.Intn(min(len(names), api.MaxChans)+1)] {
		m[n] = make(n)
	}
	return list(m)
}

// any is a fit list of up to MaxChans records out of twelve names; every third one is full.
func (d dice) any() []api.Chan {
	l := d.records(twelve(), d.record)
	for _, n := range twelve() {
		if d.Intn(3) == 0 && len(l) < api.MaxChans && !slices.ContainsFunc(l, func(c api.Chan) bool { return c.Name == n }) {
			l = append(l, d.record(n))
		}
	}
	return list(book(l))
}

// agreeing is a fit list out of eight names, in which a stamp says all.
func (d dice) agreeing() []api.Chan {
	return d.records(eight(), func(n string) api.Chan { return stamped(n, d.epoch(), d.maker()) })
}

func TestModelsAreFit(t *testing.T) {
	d, sizes, unlike := newDice(17), map[int]int{}, 0
	for range 5000 {
		l, more := d.any(), d.agreeing()
		if !sayFits(l) || !sayFits(more) {
			t.Fatalf("%+v, %+v", l, more)
		}
		sizes[len(l)]++
		sizes[len(more)]++
		other := book(d.any())
		for _, c := range l {
			if o, have := other[c.Name]; have && o != c && !sayNewer(o, c) && !sayNewer(c, o) {
				unlike++
			}
		}
	}
	for n := range api.MaxChans + 1 {
		if sizes[n] < 200 {
			t.Errorf("%d lists of %d", sizes[n], n)
		}
	}
	if unlike < 500 {
		t.Errorf("%d unlike ones of one stamp", unlike)
	}
	if !slices.IsSorted(eight()) || len(eight()) != api.MaxChans || api.MaxChans != 8 || api.MaxName != 16 || api.MaxNodes != 16 || api.MaxEpoch != lastEpoch || api.MaxScale != mostScale {
		t.Error("the limits are others than the document's")
	}
}
