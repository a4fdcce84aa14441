package chans

import (
	"math"
	"math/big"
	"math/rand"
	"slices"
	"strings"
	"testing"

	"eddy/api"
)

const (
	most      = int64(2147483647) // the greatest input
	lastEpoch = int64(1) << 40
	mostScale = int64(1) << 20
)

var none = api.Ext{}

// alive and gone are records as the document's examples write them.
func alive(name string, epoch int64, maker, kind int, scale int64) api.Chan {
	return api.Chan{Name: name, Epoch: epoch, Maker: maker, Alive: true, Kind: kind, Scale: scale}
}

func gone(name string, epoch int64, maker, kind int, scale int64) api.Chan {
	return api.Chan{Name: name, Epoch: epoch, Maker: maker, Kind: kind, Scale: scale}
}

// of is an extreme value that is there.
func of(value int64, origin int, age int64) api.Ext {
	return api.Ext{Has: true, Value: value, Origin: origin, Age: age}
}

// bare is the state of a record at its beginning.
func bare(c api.Chan) api.State { return api.State{Chan: c} }

// with is a state with an input.
func with(c api.Chan, input int64) api.State { return api.State{Chan: c, Has: true, Input: input} }

// rich is a state of KExt with an input and extreme values.
func rich(name string, epoch int64, maker int, input int64, least, greatest api.Ext) api.State {
	return api.State{Chan: alive(name, epoch, maker, api.KExt, 1), Has: true, Input: input, Min: least, Max: greatest}
}

// as is a state with something changed.
func as(s api.State, change func(s *api.State)) api.State {
	change(&s)
	return s
}

// mixed has a channel of each kind, with inputs and without, and such as are not alive.
func mixed() []api.State {
	return []api.State{
		with(alive("b", 3, 1, api.KMean, 4), 20),
		with(alive("c", 2, 0, api.KCount, 1000), 1000),
		bare(gone("d", 2, 5, api.KExt, 1)),
		rich("e", 7, 3, -7, of(-9, 1, 2), of(-7, 3, 0)),
		as(bare(alive("f", 1, 15, api.KExt, 1)), func(s *api.State) { s.Max = of(most, 0, 63) }),
		bare(gone("g", lastEpoch, 0, api.KMean, 9)),
		with(alive("q", lastEpoch, 4, api.KSquare, 4), 36),
	}
}

// full is as many as there is room for.
func full() []api.State { return append(mixed(), bare(alive("z", 1, 1, api.KMean, 1))) }

// eight are as many names as there is room for, rising, twelve are more.
func eight() []string { return []string{"0", "9z", "_", "a", "a0", "abcdefghijklmnop", "m", "z"} }

func twelve() []string { return append(eight(), "b", "m0", "zz", "zzzzzzzzzzzzzzzz") }

// named are states that are alike but for their names.
func named(names ...string) []api.State {
	var l []api.State
	for _, n := range names {
		l = append(l, with(alive(n, 3, 5, api.KMean, 4), 8))
	}
	return l
}

const letters = "abcdefghijklmnopqrstuvwxyz0123456789_"

// sayRecord says by the document's words what is a fit record.
func sayRecord(c api.Chan) bool {
	switch {
	case c.Name == "", len(c.Name) > 16, strings.Trim(c.Name, letters) != "", strings.ContainsFunc(c.Name, func(r rune) bool { return !strings.ContainsRune(letters, r) }):
		return false
	case c.Epoch < 1, c.Epoch > 1<<40, c.Maker < 0, c.Maker > 15, c.Scale < 1, c.Scale > 1<<20:
		return false
	}
	return c.Kind >= 1 && c.Kind <= 3 || c.Kind == 4 && c.Scale == 1
}

// sayExt says by the document's words what is a fit extreme value.
func sayExt(e api.Ext) bool {
	if e == none {
		return true
	}
	return e.Has && e.Value >= -2147483647 && e.Value <= 2147483647 && e.Origin >= 0 && e.Origin <= 15 && e.Age >= 0 && e.Age <= 63
}

// sayState says what is fit of one state, whatever its record: each of the document's rules by itself.
func sayState(s api.State) bool {
	rules := []bool{
		s.Chan.Alive || !s.Has,
		s.Chan.Alive || s.Input == 0,
		s.Chan.Alive || s.Min == none && s.Max == none,
		s.Has || s.Input == 0,
		s.Input >= -2147483647,
		s.Input <= 2147483647,
		s.Chan.Kind == 4 || s.Min == none,
		s.Chan.Kind == 4 || s.Max == none,
		sayExt(s.Min),
		sayExt(s.Max),
	}
	return !slices.Contains(rules, false)
}

// sayFit says what is fit for a node.
func sayFit(id int, l []api.State) bool {
	for i, s := range l {
		if !sayRecord(s.Chan) || !sayState(s) {
			return false
		}
		for _, behind := range l[i+1:] {
			if strings.Compare(s.Chan.Name, behind.Chan.Name) >= 0 {
				return false
			}
		}
	}
	return id >= 0 && id < 16 && len(l) < 9
}

// book is states by their names: what a list is, whatever its order.
func book(l []api.State) map[string]api.State {
	m := map[string]api.State{}
	for _, s := range l {
		m[s.Chan.Name] = s
	}
	return m
}

// list is the rising list of states by names.
func list(m map[string]api.State) []api.State {
	var l []api.State
	for _, s := range m {
		l = append(l, s)
	}
	slices.SortFunc(l, func(a, b api.State) int { return strings.Compare(a.Chan.Name, b.Chan.Name) })
	return l
}

func sayNewer(a, b api.Chan) bool {
	return a.Epoch > b.Epoch || a.Epoch == b.Epoch && a.Maker < b.Maker
}

// sayWhat says what becomes of a record that is told.
func sayWhat(l []api.State, c api.Chan) int {
	old, have := book(l)[c.Name]
	switch {
	case !have && len(l) == 8:
		return api.LnFull
	case !have:
		return api.LnAdded
	case sayNewer(c, old.Chan):
		return api.LnNewer
	case sayNewer(old.Chan, c):
		return api.LnOlder
	}
	return api.LnSame
}

// sayLearn says what is learned.
func sayLearn(l []api.State, c api.Chan) ([]api.State, bool) {
	if what := sayWhat(l, c); what != api.LnAdded && what != api.LnNewer {
		return l, false
	}
	m := book(l)
	m[c.Name] = bare(c)
	return list(m), true
}

// sayCreate says the first error that applies, and else what is made.
func sayCreate(l []api.State, id int, name string, kind int, scale int64) ([]api.State, api.Errno) {
	m := book(l)
	old, have := m[name]
	for _, e := range []struct {
		applies bool
		err     api.Errno
	}{
		{!sayRecord(alive(name, 1, 0, api.KMean, 1)), api.ErrName},
		{kind < 1 || kind > 4, api.ErrKind},
		{scale < 1 || scale > 1<<20 || kind == 4 && scale > 1, api.ErrScale},
		{have && old.Chan.Alive, api.ErrHave},
		{!have && len(m) == 8, api.ErrChans},
		{have && old.Chan.Epoch == 1<<40, api.ErrLast},
	} {
		if e.applies {
			return l, e.err
		}
	}
	m[name] = bare(alive(name, old.Chan.Epoch+1, id, kind, scale)) // of none the Epoch is 0
	return list(m), api.OK
}

func sayDelete(l []api.State, id int, name string) ([]api.State, api.Errno) {
	m := book(l)
	old, have := m[name]
	switch {
	case !have || !old.Chan.Alive:
		return l, api.ErrNone
	case old.Chan.Epoch == 1<<40:
		return l, api.ErrLast
	}
	m[name] = bare(gone(name, old.Chan.Epoch+1, id, old.Chan.Kind, old.Chan.Scale))
	return list(m), api.OK
}

// sayTold says what an input is told as, in numbers of any length.
func sayTold(kind int, scale, x int64) (int64, api.Errno) {
	num, by := big.NewInt(x), big.NewInt(scale)
	product := new(big.Int)
	switch kind {
	case api.KMean:
		product.Mul(num, by)
	case api.KCount:
		if x < 0 || x > 1 {
			return 0, api.ErrUnit
		}
		product.Mul(num, by)
	case api.KSquare:
		product.Mul(product.Mul(num, num), by)
	case api.KExt:
		product.Set(num)
	}
	if product.CmpAbs(big.NewInt(most)) > 0 {
		return 0, api.ErrRange
	}
	return product.Int64(), api.OK
}

// sayHolds says which one of some extreme values holds: the one that is there and is beaten by nobody.
func sayHolds(greatest bool, l ...api.Ext) api.Ext {
	beats := func(a, b api.Ext) bool {
		switch {
		case a.Value != b.Value:
			return a.Value < b.Value != greatest
		case a.Age != b.Age:
			return a.Age < b.Age
		}
		return a.Origin < b.Origin
	}
	holds := none
	for _, e := range l {
		if e.Has && (!holds.Has || beats(e, holds)) {
			holds = e
		}
	}
	return holds
}

// others is an extreme value, if it is not of a node itself, grown older by so many ticks.
func others(id int, e api.Ext, ticks int64) api.Ext {
	e.Age += ticks
	if !e.Has || e.Origin == id || e.Age > 63 {
		return none
	}
	return e
}

func saySet(l []api.State, id int, name string, x int64) ([]api.State, api.Errno) {
	m := book(l)
	s, have := m[name]
	if !have || !s.Chan.Alive {
		return l, api.ErrNone
	}
	input, err := sayTold(s.Chan.Kind, s.Chan.Scale, x)
	if err != api.OK {
		return l, err
	}
	s.Has, s.Input = true, input
	if s.Chan.Kind == api.KExt {
		s.Min, s.Max = sayHolds(false, others(id, s.Min, 0), of(x, id, 0)), sayHolds(true, others(id, s.Max, 0), of(x, id, 0))
	}
	m[name] = s
	return list(m), api.OK
}

func sayTick(l []api.State, id int) []api.State {
	m := book(l)
	for name, s := range m {
		if !s.Chan.Alive || s.Chan.Kind != api.KExt {
			continue
		}
		own := none
		if s.Has {
			own = of(s.Input, id, 0)
		}
		s.Min, s.Max = sayHolds(false, others(id, s.Min, 1), own), sayHolds(true, others(id, s.Max, 1), own)
		m[name] = s
	}
	return list(m)
}

func sayHear(l []api.State, id int, name string, least, greatest api.Ext) []api.State {
	m := book(l)
	if s, have := m[name]; have && s.Chan.Alive && s.Chan.Kind == api.KExt {
		s.Min, s.Max = sayHolds(false, s.Min, others(id, least, 0)), sayHolds(true, s.Max, others(id, greatest, 0))
		m[name] = s
	}
	return list(m)
}

// Numbers at and around the ends of their ranges, and some between.
func ids() []int {
	return []int{math.MinInt, -1 << 32, -16, -1, 0, 1, 7, 14, 15, 16, 17, 1 << 32, math.MaxInt}
}

func kinds() []int {
	return []int{math.MinInt, -1 << 32, -4, -1, 0, 1, 2, 3, 4, 5, 6, 257, 1 << 32, 1<<32 + 1, math.MaxInt}
}

func epochs() []int64 {
	return []int64{math.MinInt64, -1, 0, 1, 2, 1 << 32, lastEpoch - 1, lastEpoch, lastEpoch + 1, math.MaxInt64}
}

func scales() []int64 {
	return []int64{math.MinInt64, -mostScale, -1, 0, 1, 2, 4, mostScale - 1, mostScale, mostScale + 1, 1 << 32, 1<<32 + 1, math.MaxInt64}
}

func inputs() []int64 {
	return []int64{math.MinInt64, math.MinInt64 + 1, -1 << 33, -1 << 32, -most - 2, -most - 1, -most, 1 - most, -46341, -46340, -2, -1, 0, 1, 2, 5, 46340, 46341, most - 1, most, most + 1, most + 2, 1 << 32, 1 << 33, math.MaxInt64 - 1, math.MaxInt64}
}

func ages() []int64 { return []int64{math.MinInt64, -64, -1, 0, 1, 62, 63, 64, 65, math.MaxInt64} }

// texts are names, and texts that are none.
func texts() []string {
	l := []string{"", "M", "a b", " a", "a ", "a-b", "a\n", "\x00", "a\x00", "é", "\xff", "`", "{", "/", ":"}
	for _, n := range []int{15, 16, 17, 300} {
		l = append(l, strings.Repeat("q", n))
	}
	return append(l, twelve()...)
}

// dice draws states, by a fixed seed.
type dice struct{ *rand.Rand }

func newDice(seed int64) dice { return dice{rand.New(rand.NewSource(seed))} }

func pick[T any](d dice, l []T) T { return l[d.Intn(len(l))] }

// epoch is one of few, so that many are alike, or one of the whole range.
func (d dice) epoch() int64 {
	switch d.Intn(8) {
	case 0:
		return lastEpoch - d.Int63n(2)
	case 1:
		return 1 + d.Int63n(lastEpoch)
	}
	return 1 + d.Int63n(3)
}

// node is one of few, or any.
func (d dice) node() int {
	if d.Intn(3) > 0 {
		return d.Intn(3)
	}
	return d.Intn(api.MaxNodes)
}

func (d dice) kind() int { return 1 + d.Intn(4) }

// scale is one of a kind, small or great.
func (d dice) scale(kind int) int64 {
	switch {
	case kind == api.KExt:
		return 1
	case d.Intn(2) == 0:
		return 1 + d.Int63n(9)
	}
	return 1 + d.Int63n(mostScale)
}

func (d dice) record(name string) api.Chan {
	k := d.kind()
	return api.Chan{Name: name, Epoch: d.epoch(), Maker: d.node(), Alive: d.Intn(4) > 0, Kind: k, Scale: d.scale(k)}
}

// input is small, or one of the whole range.
func (d dice) input() int64 {
	if d.Intn(3) > 0 {
		return d.Int63n(9) - 4
	}
	return d.Int63n(2*most+1) - most
}

// ext is a fit extreme value, here and there none.
func (d dice) ext() api.Ext {
	if d.Intn(5) == 0 {
		return none
	}
	age := d.Int63n(3)
	if d.Intn(2) == 0 {
		age = 61 + d.Int63n(3)
	}
	return of(d.input(), d.node(), age)
}

// state is a fit one with all that its record allows, here and there.
func (d dice) state(c api.Chan) api.State {
	s := bare(c)
	if c.Alive && d.Intn(4) > 0 {
		s.Has, s.Input = true, d.input()
	}
	if c.Alive && c.Kind == api.KExt {
		s.Min, s.Max = d.ext(), d.ext()
	}
	return s
}

// states is a fit list of up to MaxChans states out of twelve names.
func (d dice) states() []api.State {
	names := twelve()
	d.Shuffle(len(names), func(i, j int) { names[i], names[j] = names[j], names[i] })
	m := map[string]api.State{}
	for _, n := range names[:d.Intn(api.MaxChans+1)] {
		m[n] = d.state(d.record(n))
	}
	for _, n := range names[api.MaxChans:] {
		if len(m) < api.MaxChans && d.Intn(3) == 0 {
			m[n] = d.state(d.record(n))
		}
	}
	return list(m)
}

// unfit is a state of which each part is drawn by itself, from within its range and beyond.
func (d dice) unfit() api.State {
	e := func() api.Ext {
		return api.Ext{Has: d.Intn(2) == 0, Value: pick(d, inputs()), Origin: pick(d, ids()), Age: pick(d, ages())}
	}
	c := api.Chan{Name: pick(d, texts()), Epoch: pick(d, epochs()), Maker: pick(d, ids()), Alive: d.Intn(2) == 0, Kind: pick(d, kinds()), Scale: pick(d, scales())}
	return api.State{Chan: c, Has: d.Intn(2) == 0, Input: pick(d, inputs()), Min: e(), Max: e()}
}

// What the tests go by is fit, and of all sorts, or they would say little.
func TestModelsAreFit(t *testing.T) {
	for _, l := range [][]api.State{mixed(), full(), named(eight()...)} {
		if !sayFit(3, l) {
			t.Errorf("%+v", l)
		}
	}
	d, sizes, sorts := newDice(18), map[int]int{}, map[api.State]int{}
	for range 5000 {
		l := d.states()
		if !sayFit(d.node(), l) {
			t.Fatalf("%+v", l)
		}
		sizes[len(l)]++
		for _, s := range l { // which of the parts are there
			sorts[api.State{Chan: api.Chan{Alive: s.Chan.Alive, Kind: s.Chan.Kind}, Has: s.Has, Min: api.Ext{Has: s.Min.Has}, Max: api.Ext{Has: s.Max.Has}}]++
		}
	}
	for n := range api.MaxChans + 1 {
		if sizes[n] < 100 {
			t.Errorf("%d lists of %d", sizes[n], n)
		}
	}
	if len(sorts) != 4+3*2+2*2*2 {
		t.Errorf("%d sorts of states", len(sorts))
	}
	for s, n := range sorts {
		if n < 10 {
			t.Errorf("%d states as %+v", n, s)
		}
	}
	if api.MaxChans != 8 || api.MaxNodes != 16 || api.MaxFlow != most || api.MaxEpoch != lastEpoch || api.MaxScale != mostScale || api.MaxAge != 64 {
		t.Error("the limits are others than the document's")
	}
}
