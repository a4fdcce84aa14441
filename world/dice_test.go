package world

import (
	"fmt"
	"math"
	"math/rand"
	"reflect"
	"slices"
	"testing"

	"eddy/api"
	"eddy/wire"
)

// dice draws worlds and steps, by a fixed seed.
type dice struct{ *rand.Rand }

func newDice(seed int64) dice { return dice{rand.New(rand.NewSource(seed))} }

func pick[T any](d dice, l []T) T { return l[d.Intn(len(l))] }

// often is true n times of m.
func (d dice) often(n, m int) bool { return d.Intn(m) < n }

// Kinds of steps, as often as they are drawn.
var (
	faults = []int{api.StDrop, api.StDrop, api.StDrop, api.StDouble, api.StDouble, api.StDouble, api.StCrash, api.StRestart, api.StRestart, api.StRestart, api.StSever, api.StMend, api.StMend, api.StMend}
	calls  = []int{api.StLink, api.StLink, api.StLink, api.StLink, api.StUnlink, api.StCreate, api.StCreate, api.StDelete, api.StSet, api.StSet, api.StSet, api.StSet}
	plain  = []int{api.StTick, api.StTick, api.StTick, api.StTick, api.StDeliver, api.StDeliver, api.StDeliver, api.StDeliver, api.StDeliver, api.StFlush, api.StRound}
)

// wild is a number of any size, often at an end.
func wild(d dice) int64 {
	return pick(d, []int64{math.MinInt64, -1 << 32, -1, 0, 1, 2, 3, 15, 16, 17, 64, 65536, 1<<31 - 1, 1 << 31, 1 << 32, 1<<32 + 1, lastBoot, lastBoot + 1, lastMail - 1, lastMail, lastMail + 1, math.MaxInt64})
}

// id is a node of a world, seldom one beyond it.
func (d dice) id(n int) int {
	if d.often(1, 30) {
		return pick(d, []int{-1, n, n + 1, 15, 16, 17, math.MaxInt, math.MinInt, 1 << 32})
	}
	return d.Intn(n)
}

func (d dice) name() string {
	if d.often(1, 30) {
		return pick(d, []string{"", "M", "a ", "abcdefghijklmnopq", "\xff", "abcdefghijklmnop"})
	}
	return pick(d, []string{"a", "b", "m"})
}

// step is a step of a kind, in a world of n nodes.
func (d dice) step(kind, n int) api.Step {
	x := api.Step{Kind: kind}
	fields, _ := uses(kind)
	for _, f := range fields {
		switch f {
		case 'A':
			x.A = d.id(n)
		case 'B':
			x.B = d.id(n)
		case 'T':
			x.Name = d.name()
		case 'K':
			x.K = pick(d, []int{api.KMean, api.KMean, api.KCount, api.KSquare, api.KExt, 1 + d.Intn(4), d.Intn(6)})
		case 'n':
			x.N = pick(d, []int64{0, 0, 0, 1, 2, d.Int63n(100), math.MaxInt64})
		case 'N':
			x.N = d.number(kind)
		}
	}
	return x
}

// number is N of a kind that takes any.
func (d dice) number(kind int) int64 {
	switch kind {
	case api.StCreate:
		return pick(d, []int64{1, 1, 1, 1, 1, 2, 1000, 1 << 20, 0, 1<<20 + 1})
	case api.StRestart:
		return pick(d, []int64{-1, -1, -1, 0, 1, 2, 3, math.MinInt64, math.MaxInt64})
	}
	return pick(d, []int64{0, 1, 1, 7, -3, 100, -100, d.Int63n(2001) - 1000, 46340, 46341, 1<<31 - 1, 1<<31 - 2, -(1<<31 - 1), -(1<<31 - 1), 1 << 31})
}

// none is what is no step: one that has something that its kind does not use, or has no kind.
func (d dice) none(n int) api.Step {
	for {
		x := d.step(1+d.Intn(15), n)
		switch d.Intn(6) {
		case 0:
			x.Kind = pick(d, []int{0, -1, 16, 17, math.MaxInt, math.MinInt})
		case 1:
			x.A = int(wild(d))
		case 2:
			x.B = int(wild(d))
		case 3:
			x.Name = pick(d, []string{"a", " ", "\x00", "b"})
		case 4:
			x.K = int(wild(d))
		case 5:
			x.N = wild(d)
		}
		if !sayStep(x) {
			return x
		}
	}
}

// any is a step of any kind, or what is none.
func (d dice) any(n int) api.Step {
	switch {
	case d.often(1, 40):
		return d.none(n)
	case d.often(1, 12):
		return d.step(pick(d, faults), n)
	case d.often(1, 5):
		return d.step(pick(d, calls), n)
	}
	return d.step(pick(d, plain), n)
}

// ahead are steps by which a world of n nodes comes to something: links both ways, and channels.
func (d dice) ahead(n int) []api.Step {
	var l []api.Step
	for a := range n {
		for b := range a {
			if n <= 4 || d.often(3, n) {
				l = append(l, api.Step{Kind: api.StLink, A: a, B: b}, api.Step{Kind: api.StLink, A: b, B: a})
			}
		}
	}
	for range 3 {
		l = append(l, api.Step{Kind: api.StRound})
	}
	for i, name := range []string{"a", "b", "m"} {
		l = append(l, api.Step{Kind: api.StCreate, A: d.Intn(n), Name: name, K: []int{api.KExt, api.KCount, api.KMean}[i], N: 1})
	}
	return append(l, api.Step{Kind: api.StFlush})
}

// script is so many steps of all sorts in a world of n nodes.
func (d dice) script(n, length int) []api.Step {
	l := d.ahead(n)
	for range length {
		l = append(l, d.any(n))
	}
	return l
}

// fit is a fit world, with something of all that it may have, also what no run comes to.
func (d dice) fit() api.World {
	n := 1 + d.Intn(6)
	w, _, _ := Run(n, d.script(n, d.Intn(80)))
	for range d.Intn(3) {
		switch d.Intn(8) {
		case 0:
			w.Lost = lastLost - d.Int63n(3)
		case 1:
			w.Mail.Next = lastMail - d.Int63n(3)
		case 2, 7:
			for id, up := range w.Up {
				if !up || d.often(1, 4) {
					w.Disks[id] = d.disk()
				}
			}
		case 3:
			if a, b := d.Intn(n), d.Intn(n); a != b && !slices.Contains(w.Mail.Severed, ordered(a, b)) {
				w.Mail.Severed = append(w.Mail.Severed, ordered(a, b))
				slices.SortFunc(w.Mail.Severed, func(k, l api.Link) int { return (k.A-l.A)*16 + k.B - l.B })
			}
		case 4, 5:
			if n > 1 {
				d.post(&w)
			}
		case 6:
			if id := d.Intn(n); w.Up[id] {
				w.Nodes[id].Boot, w.Nodes[id].Ticks = lastBoot-d.Int63n(2), lastBoot-d.Int63n(2)
			}
		}
	}
	return w
}

// disk is a disk of any bytes, mostly with records on it.
func (d dice) disk() []byte {
	b := make([]byte, 64)
	d.Read(b)
	for slot := range 2 {
		if d.often(3, 4) {
			copy(b[32*slot:], bootRecord(pick(d, []int64{1, 2, 256, lastBoot - 1, lastBoot, lastBoot})))
		}
	}
	if d.often(1, 4) {
		b[d.Intn(64)]++
	}
	return b
}

// post lets some packet be in flight, of an incarnation that may be over or is still to come.
func (d dice) post(w *api.World) {
	if w.Mail.Next == lastMail {
		return
	}
	n := len(w.Nodes)
	p := api.Packet{Kind: 1 + d.Intn(5), From: d.Intn(n), Boot: 1 + d.Int63n(3), Life: d.Int63n(3), Echo: 1 + d.Int63n(3), EchoLife: d.Int63n(3)}
	p.To = (p.From + 1 + d.Intn(n-1)) % n
	if p.Kind == api.PkHello {
		p.Echo, p.EchoLife = 0, 0
	}
	if p.Kind == api.PkAsk || p.Kind == api.PkAnswer {
		c := api.Chan{Name: pick(d, []string{"a", "b", "m", "z"}), Epoch: 1 + d.Int63n(3), Maker: d.Intn(16), Alive: d.often(4, 5), Kind: api.KMean, Scale: 1}
		x := api.Item{Chan: c}
		if c.Alive {
			x.Reg, x.HasRest, x.Rest = api.Reg{Ver: 1 + d.Int63n(9), Writer: p.From, Flow: d.Int63n(99)}, true, d.Int63n(99)
		}
		p.Items = []api.Item{x}
	}
	w.Mail.Next++
	w.Mail.List = append(w.Mail.List, api.Datagram{Number: w.Mail.Next, From: p.From, To: p.To, Body: string(wire.Encode(p))})
}

// sort is of which sorts a step was, by what has come of it.
func sort(x api.Step, w, got api.World, o api.Outcome) []string {
	l := []string{fmt.Sprint(x.Kind, " ", int(o.Err))}
	if o.Err == api.ErrStep {
		l[0] = "none"
	}
	for _, e := range o.Events {
		l = append(l, fmt.Sprint("event ", e.Event.Kind))
	}
	if got.Lost > w.Lost {
		l = append(l, fmt.Sprint(x.Kind, " loses"))
	}
	return l
}

// What the tests go by is fit, and of all sorts, or they would say little.
func TestDrawnWorldsAreFit(t *testing.T) {
	d, sorts := newDice(1), map[string]int{}
	for range 800 {
		w := d.fit()
		if !sayFit(w) || !Fit(w) || !alike(say(w).world(), w) {
			t.Fatalf("%+v", w)
		}
		if slices.Contains(w.Up, false) {
			sorts["a node is down"]++
		}
		if len(w.Mail.List) > 0 {
			sorts["in flight"]++
		}
		if len(w.Mail.Severed) > 0 {
			sorts["severed"]++
		}
		for _, st := range w.Nodes {
			if len(st.Halves) > 0 && len(st.Halves[0].Lines) > 0 {
				sorts["lines"]++
				break
			}
		}
	}
	for _, sort := range []string{"a node is down", "in flight", "severed", "lines"} {
		if sorts[sort] < 100 {
			t.Errorf("%d of %s", sorts[sort], sort)
		}
	}
	if api.MaxBoot != lastBoot || api.MaxBag != fullBag || api.MaxFlush != oneFlush || api.MaxNodes != 16 || api.DropRounds != 30 || api.MaxAge != 64 {
		t.Error("the limits are others than the document's")
	}
}

// small is a fit world of a short run.
func (d dice) small() api.World {
	n := 1 + d.Intn(4)
	w, _, _ := Run(n, d.script(n, d.Intn(20)))
	return w
}

// one is a fit world of a short run, or base.
func (d dice) one() api.World {
	if d.often(1, 2) {
		return base()
	}
	return d.small()
}

// leaves hands out all that stands in a value that is no list and no struct, and the lists.
func leaves(v reflect.Value, path string, do func(path string, v reflect.Value)) {
	switch v.Kind() {
	case reflect.Slice:
		do(path, v)
		for i := range v.Len() {
			leaves(v.Index(i), fmt.Sprint(path, "[", i, "]"), do)
		}
	case reflect.Struct:
		for i := range v.NumField() {
			leaves(v.Field(i), path+"."+v.Type().Field(i).Name, do)
		}
	default:
		do(path, v)
	}
}

// tear changes one leaf or list.
func (d dice) tear(v reflect.Value) {
	switch v.Kind() {
	case reflect.Slice:
		d.tearList(v)
	case reflect.Bool:
		v.SetBool(!v.Bool())
	case reflect.String:
		b := []byte(v.String() + "x")
		b[d.Intn(len(b))]++
		v.SetString(string(b[:d.Intn(len(b)+1)]))
	case reflect.Uint8:
		v.SetUint(uint64(d.Intn(256)))
	default:
		v.SetInt(pick(d, []int64{wild(d), v.Int() - 1, v.Int() + 1, 0}))
	}
}

// tearList lets a list be shorter, or have something twice, or what is zero.
func (d dice) tearList(v reflect.Value) {
	n := v.Len()
	l := reflect.MakeSlice(v.Type(), 0, n+1)
	at := d.Intn(n + 1)
	l = reflect.AppendSlice(l, v.Slice(0, at))
	switch {
	case at == n || d.often(1, 3):
		l = reflect.Append(l, reflect.Zero(v.Type().Elem()))
	case d.often(1, 2):
		l = reflect.Append(l, v.Index(at), v.Index(d.Intn(n)))
	}
	if at < n {
		l = reflect.AppendSlice(l, v.Slice(at+1, n))
	}
	v.Set(l)
}

// torn is a world in which something is changed, so that it is seldom fit.
func (d dice) torn(w api.World) api.World {
	var all []reflect.Value
	leaves(reflect.ValueOf(&w).Elem(), "", func(_ string, v reflect.Value) {
		if v.Kind() != reflect.Uint8 || d.often(1, 16) {
			all = append(all, v)
		}
	})
	d.tear(pick(d, all))
	return w
}
