package shake

import (
	"slices"
	"testing"

	"eddy/api"
	"eddy/wire"
)

// Of any two that are unlike one is later, and of none both; what is later than a later one is later.
func TestP14_7StrictOrder(t *testing.T) {
	type pair [2]int64
	var all []pair
	for _, boot := range []int64{least, -most, -1, 0, 1, 2, most, top} {
		for _, life := range []int64{least, -1, 0, 1, 2, most, top} {
			all = append(all, pair{boot, life})
		}
	}
	later := func(a, b pair) bool { return Later(a[0], a[1], b[0], b[1]) }
	for _, a := range all {
		if later(a, a) {
			t.Errorf("%v is later than itself", a)
		}
		for _, b := range all {
			if a != b && later(a, b) == later(b, a) {
				t.Errorf("of %v and %v: %t both ways", a, b, later(a, b))
			}
			for _, c := range all {
				if later(a, b) && later(b, c) && !later(a, c) {
					t.Errorf("%v, %v, %v: the first is not later than the last", a, b, c)
				}
			}
		}
	}
	// By this order any row is sorted in just one way: by boot numbers first.
	d := newDice(147)
	for range 50 {
		row := slices.Clone(all)
		d.Shuffle(len(row), func(i, j int) { row[i], row[j] = row[j], row[i] })
		slices.SortFunc(row, func(a, b pair) int {
			switch {
			case later(a, b):
				return 1
			case later(b, a):
				return -1
			}
			return 0
		})
		if !slices.Equal(row, all) {
			t.Fatalf("%v", row)
		}
	}
}

// goesOn holds a list to what it was ahead of a call for one peer: nothing is earlier or less, and nobody else's entry
// is changed.
func goesOn(t *testing.T, id, peer int, was, is []api.Seen) {
	t.Helper()
	if !Fit(id, is) || !sayFit(id, is) {
		t.Fatalf("node %d: %+v is not fit, behind %+v", id, is, was)
	}
	before, behind := notesOf(was), notesOf(is)
	for n := range 16 {
		a, b := before[n], behind[n]
		if n != peer && a != b {
			t.Fatalf("the entry of %d is %+v, was %+v: the call is for %d", n, b, a, peer)
		}
		if sayLater(a.Boot, a.Life, b.Boot, b.Life) || b.Mine < a.Mine {
			t.Fatalf("the entry of %d is %+v, was %+v", n, b, a)
		}
	}
}

// Long rows of See and Dropped, from nothing on and from lists that are drawn.
func TestP14_8NeverBack(t *testing.T) {
	sizes, greatest, left, changed := map[int]int{}, 0, 0, 0
	for i := range 160 {
		id, d := i%16, newDice(int64(14800+i))
		var l []api.Seen
		if i%3 > 0 {
			l = d.list(id)
		}
		for range 400 {
			was, peer := slices.Clone(l), d.other(id)
			if d.Intn(3) == 0 {
				l = Dropped(l, peer)
				if !slices.Equal(l, sayDropped(was, peer)) {
					t.Fatalf("Dropped(%+v, %d): %+v", was, peer, l)
				}
				if sayGet(was, peer).Mine == most {
					greatest++
				}
			} else {
				s := sayGet(was, peer)
				boot, life := d.boot(), d.life()
				if s.Boot > 0 && d.Intn(2) == 0 {
					boot, life = s.Boot, d.near(s.Life)
				}
				l = See(l, peer, boot, life)
				if !slices.Equal(l, saySee(was, peer, boot, life)) {
					t.Fatalf("See(%+v, %d, %d, %d): %+v", was, peer, boot, life, l)
				}
				if slices.Equal(l, was) {
					left++
				} else {
					changed++
				}
			}
			goesOn(t, id, peer, was, l)
			sizes[len(l)]++
		}
	}
	if sizes[1] == 0 || sizes[15] < 1000 || greatest < 100 || left < 1000 || changed < 1000 {
		t.Errorf("sizes %v, at the greatest life %d, left %d, changed %d", sizes, greatest, left, changed)
	}
}

// In whatever order some incarnations are seen, the latest of them stands at last; seen once more they change nothing.
func TestP14_8TheLatestStands(t *testing.T) {
	d := newDice(1482)
	for range 2000 {
		var row [][2]int64
		for range 1 + d.Intn(8) {
			row = append(row, [2]int64{d.boot(), d.life()})
		}
		var l []api.Seen
		latest := row[0]
		for _, x := range row {
			l = See(l, 5, x[0], x[1])
			if sayLater(x[0], x[1], latest[0], latest[1]) {
				latest = x
			}
		}
		want := []api.Seen{seen(5, latest[0], latest[1], 0)}
		if !slices.Equal(l, want) {
			t.Fatalf("%v: %+v", row, l)
		}
		for _, x := range row {
			if again := See(l, 5, x[0], x[1]); !slices.Equal(again, want) {
				t.Fatalf("%v once more: %+v", x, again)
			}
		}
	}
}

// Lives are counted one by one, each peer's by itself.
func TestP14_8LivesAreCounted(t *testing.T) {
	l := []api.Seen{seen(6, 0, 0, most-5)}
	for i := range int64(20) {
		l = Dropped(Dropped(l, 4), 6)
		if Get(l, 4).Mine != i+1 || Get(l, 6).Mine != min(most-4+i, most) || Get(l, 5).Mine != 0 || !Fit(5, l) {
			t.Fatalf("%d times: %+v", i+1, l)
		}
	}
}

// goods hands out packets that are good, with who gets them.
func goods(seed int64, do func(d dice, id int, boot int64, l []api.Seen, p api.Packet)) int {
	d, n := newDice(seed), 0
	for range 60000 {
		id, boot := d.Intn(16), d.boot()
		l := d.list(id)
		p := d.packet(id, boot, l)
		if Judge(l, boot, p) == api.JdGood {
			n++
			do(d, id, boot, l, p)
		}
	}
	return n
}

func TestP14_9NotGoodBehindDropped(t *testing.T) {
	atMost := 0
	n := goods(149, func(d dice, id int, boot int64, l []api.Seen, p api.Packet) {
		behind, want := Judge(Dropped(l, p.From), boot, p), others(p.Kind)
		if Get(l, p.From).Mine == most { // lives stay there, and so does what is good
			want = api.JdGood
			atMost++
		}
		if behind != want {
			t.Fatalf("%+v behind Dropped of %+v: %d, want %d", p, l, behind, want)
		}
		other := d.other(p.From)
		if x := Judge(Dropped(l, other), boot, p); x != api.JdGood {
			t.Fatalf("%+v behind Dropped of %+v, to %d: %d", p, l, other, x)
		}
	})
	if n < 5000 || atMost < 100 {
		t.Errorf("%d are good, %d at the greatest life", n, atMost)
	}
}

// Nor is it good behind more of them, whatever is seen between.
func TestP14_9NeverGoodAgain(t *testing.T) {
	n := goods(1491, func(d dice, id int, boot int64, l []api.Seen, p api.Packet) {
		if Get(l, p.From).Mine >= most-20 {
			return
		}
		l = Dropped(l, p.From)
		for range 15 {
			if Judge(l, boot, p) == api.JdGood {
				t.Fatalf("%+v is good again: %+v", p, l)
			}
			if d.Intn(2) == 0 {
				l = Dropped(l, p.From)
			} else {
				l = See(l, p.From, d.boot(), d.life())
			}
		}
	})
	if n < 5000 {
		t.Errorf("%d are good", n)
	}
}

func TestP14_9StaleBehindALaterOne(t *testing.T) {
	n := goods(1492, func(d dice, id int, boot int64, l []api.Seen, p api.Packet) {
		for later, life := range laterThan(p.Boot, p.Life) {
			if got := Judge(See(l, p.From, later, life), boot, p); got != api.JdStale {
				t.Fatalf("%+v behind See of %d %d: %d", p, later, life, got)
			}
		}
		if got := Judge(See(l, p.From, p.Boot, p.Life), boot, p); got != api.JdGood {
			t.Fatalf("%+v behind See of its own: %d", p, got)
		}
		if got := Judge(See(l, d.other(p.From), most, most), boot, p); got != api.JdGood {
			t.Fatalf("%+v behind See of another one's: %d", p, got)
		}
	})
	if n < 5000 {
		t.Errorf("%d are good", n)
	}
}

// laterThan hands out incarnations that are later than one, as far as there are such: just so and by far.
func laterThan(boot, life int64) func(yield func(boot, life int64) bool) {
	return func(yield func(boot, life int64) bool) {
		for _, x := range [][2]int64{{boot, life + 1}, {boot, most}, {boot + 1, 0}, {boot + 1, life}, {most, 0}, {most, most}} {
			if x[0] <= most && x[1] <= most && sayLater(x[0], x[1], boot, life) && !yield(x[0], x[1]) {
				return
			}
		}
	}
}

// end is a node that shakes hands.
type end struct {
	id   int
	boot int64
	seen []api.Seen
}

func (e end) judge(p api.Packet) int { return Judge(e.seen, e.boot, p) }

// lifeTo is its life towards a peer, as it is.
func (e end) lifeTo(peer int) int64 { return sayGet(e.seen, peer).Mine }

// back is a packet to the one that a packet is from, with that one's incarnation as Echo.
func (e end) back(kind int, p api.Packet) api.Packet {
	return api.Packet{Kind: kind, From: e.id, To: p.From, Boot: e.boot, Life: e.lifeTo(p.From), Echo: p.Boot, EchoLife: p.Life}
}

// sees is the node behind a good packet.
func (e end) sees(p api.Packet) end {
	e.seen = See(e.seen, p.From, p.Boot, p.Life)
	return e
}

// two are two nodes, and each has seen of the other nothing, something earlier than that is, or what it is.
func (d dice) two() (end, end) {
	a := end{id: d.Intn(16), boot: d.boot()}
	b := end{id: d.other(a.id), boot: d.boot()}
	a.seen, b.seen = d.list(a.id), d.list(b.id)
	a.seen, b.seen = d.notLater(a.seen, b, a.id), d.notLater(b.seen, a, b.id)
	return a, b
}

// notLater is a list in which nothing of a peer is later than it is towards the node.
func (d dice) notLater(l []api.Seen, peer end, id int) []api.Seen {
	n, s := notesOf(l), sayGet(l, peer.id)
	boot, life := peer.boot, peer.lifeTo(id)
	switch d.Intn(5) {
	case 0:
		boot, life = 0, 0
	case 1:
		life = max(life-1, 0)
	case 2:
		boot, life = boot-1, d.life()
	case 3:
		boot = d.Int63n(boot + 1)
	}
	if boot == 0 { // a life goes with a boot number alone
		life = 0
	}
	n[peer.id] = seen(peer.id, boot, life, s.Mine)
	return n.list()
}

// A Hello is welcome; the Welcome is good where it comes from; what goes back is good where the Welcome comes from; and
// all that goes on to and fro is good.
func TestP14_10TheyFindEachOther(t *testing.T) {
	d := newDice(1410)
	for range 40000 {
		a, b := d.two()
		hello := Hello(a.id, a.boot, a.seen, b.id)
		if got := b.judge(hello); got != api.JdWelcome {
			t.Fatalf("a: %+v, b: %+v: the Hello is judged %d", a, b, got)
		}
		welcome := Welcome(b.id, b.boot, b.seen, hello)
		if got := a.judge(welcome); got != api.JdGood {
			t.Fatalf("a: %+v, b: %+v: the Welcome is judged %d", a, b, got)
		}
		for kind := api.PkWelcome; kind < api.NumPks; kind++ {
			back := a.back(kind, welcome)
			if !wire.Fit(back) || b.judge(back) != api.JdGood {
				t.Fatalf("a: %+v, b: %+v: %+v is judged %d", a, b, back, b.judge(back))
			}
		}
		if got := a.sees(welcome).sees(welcome).judge(welcome); got != api.JdGood {
			t.Fatalf("a: %+v, b: %+v: the Welcome, once more, is judged %d", a, b, got)
		}
		toAndFro(t, a.sees(welcome), b, a.back(api.PkAsk, welcome))
	}
}

// toAndFro lets packets go between two nodes, each with the incarnation of the one before it as Echo.
func toAndFro(t *testing.T, a, b end, p api.Packet) {
	t.Helper()
	for range 4 {
		if b.judge(p) != api.JdGood {
			t.Fatalf("from %+v to %+v: %+v is judged %d", a, b, p, b.judge(p))
		}
		b = b.sees(p)
		a, b, p = b, a, b.back(api.PkAnswer, p)
	}
}

// An Ask that is not good brings a Welcome as well, and with it the two find each other.
func TestP14_10BehindAnAskThatIsNotGood(t *testing.T) {
	d, asked := newDice(14102), 0
	for range 20000 {
		a, b := d.two()
		ask := api.Packet{Kind: api.PkAsk, From: a.id, To: b.id, Boot: a.boot, Life: a.lifeTo(b.id), Echo: d.boot(), EchoLife: d.life()}
		if b.judge(ask) != api.JdWelcome {
			continue
		}
		asked++
		welcome := Welcome(b.id, b.boot, b.seen, ask)
		if a.judge(welcome) != api.JdGood || b.judge(a.back(api.PkAsk, welcome)) != api.JdGood {
			t.Fatalf("a: %+v, b: %+v: %d, %d", a, b, a.judge(welcome), b.judge(a.back(api.PkAsk, welcome)))
		}
	}
	if asked < 10000 {
		t.Errorf("%d Asks are welcome", asked)
	}
}

// One that was dropped or has started anew finds the other again, though what is in flight of the old edge is not good.
func TestP14_10Again(t *testing.T) {
	d, shaken := newDice(14103), 0
	for range 10000 {
		a, b := d.two()
		if a.lifeTo(b.id) == most || a.boot == most { // neither can be greater
			continue
		}
		shaken++
		welcome := Welcome(b.id, b.boot, b.seen, Hello(a.id, a.boot, a.seen, b.id))
		ask := a.back(api.PkAsk, welcome)
		b = b.sees(ask)
		old := b.back(api.PkAnswer, ask)
		if d.Intn(2) == 0 {
			a.seen = Dropped(a.seen, b.id)
		} else {
			a = end{id: a.id, boot: a.boot + 1}
		}
		if a.judge(old) != api.JdPass || a.judge(welcome) != api.JdPass {
			t.Fatalf("a: %+v: the old Answer is judged %d, the old Welcome %d", a, a.judge(old), a.judge(welcome))
		}
		again := Welcome(b.id, b.boot, b.seen, Hello(a.id, a.boot, a.seen, b.id))
		if a.judge(again) != api.JdGood || b.judge(a.back(api.PkAsk, again)) != api.JdGood {
			t.Fatalf("a: %+v, b: %+v: not good", a, b)
		}
		if got := b.sees(a.back(api.PkAsk, again)).judge(ask); got != api.JdStale {
			t.Fatalf("a: %+v, b: %+v: the old Ask is judged %d", a, b, got)
		}
	}
	if shaken < 5000 {
		t.Errorf("%d times", shaken)
	}
}

// What each has seen that is not later than the other is, or the tests above would say little.
func TestTwoAreOfAllKinds(t *testing.T) {
	d, counts := newDice(14104), map[string]int{}
	for range 5000 {
		a, b := d.two()
		s, life := sayGet(a.seen, b.id), b.lifeTo(a.id)
		switch {
		case !sayFit(a.id, a.seen), !sayFit(b.id, b.seen), sayLater(s.Boot, s.Life, b.boot, life):
			t.Fatalf("%+v, %+v", a, b)
		case s.Boot == 0:
			counts["nothing"]++
		case s.Boot < b.boot:
			counts["an earlier boot number"]++
		case s.Life < life:
			counts["an earlier life"]++
		default:
			counts["as it is"]++
		}
	}
	if len(counts) != 4 || min(counts["nothing"], counts["an earlier boot number"], counts["an earlier life"], counts["as it is"]) < 200 {
		t.Errorf("%v", counts)
	}
}
