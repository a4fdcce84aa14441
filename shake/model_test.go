package shake

import (
	"iter"
	"maps"
	"math"
	"math/rand"
	"slices"
	"testing"

	"eddy/api"
	"eddy/half"
	"eddy/wire"
)

const (
	most  = int64(1 << 40) // the greatest boot number, and the greatest life
	least = math.MinInt64
	top   = math.MaxInt64
)

func seen(peer int, boot, life, mine int64) api.Seen {
	return api.Seen{Peer: peer, Boot: boot, Life: life, Mine: mine}
}

// packet is one of a kind from a node, to another one: from 5 it is to 1.
func packet(kind, from int, boot, life, echo, echoLife int64) api.Packet {
	p := api.Packet{Kind: kind, From: from, To: (from + 12) % 16, Boot: boot, Life: life, Echo: echo, EchoLife: echoLife}
	if kind == api.PkHello {
		p.Echo, p.EchoLife = 0, 0
	}
	return p
}

func same(a, b api.Packet) bool { return wire.Same(a, b) }

func sayNode(n int) bool { return n > -1 && n < 16 }

func sayLater(boot, life, otherBoot, otherLife int64) bool {
	return slices.Compare([]int64{boot, life}, []int64{otherBoot, otherLife}) == 1
}

// sayFit says by the document's words whether a list is fit for a node.
func sayFit(id int, l []api.Seen) bool {
	for i, s := range l {
		switch {
		case !sayNode(s.Peer), s.Peer == id:
			return false
		case min(s.Boot, s.Life, s.Mine) < 0, max(s.Boot, s.Life, s.Mine) > 1099511627776:
			return false
		case s.Boot == 0 && s.Life != 0:
			return false
		case s.Boot == 0 && s.Life == 0 && s.Mine == 0:
			return false
		}
		for _, ahead := range l[:i] {
			if ahead.Peer >= s.Peer {
				return false
			}
		}
	}
	return sayNode(id)
}

// notes are what was seen, by peers: of one that does not stand there all is 0.
type notes map[int]api.Seen

func notesOf(l []api.Seen) notes {
	n := notes{}
	for _, s := range l {
		n[s.Peer] = s
	}
	return n
}

func (n notes) list() []api.Seen {
	var l []api.Seen
	for _, peer := range slices.Sorted(maps.Keys(n)) {
		if s := n[peer]; s.Boot != 0 || s.Life != 0 || s.Mine != 0 {
			l = append(l, s)
		}
	}
	return l
}

func sayGet(l []api.Seen, peer int) api.Seen {
	s := notesOf(l)[peer]
	s.Peer = peer
	return s
}

func saySee(l []api.Seen, peer int, boot, life int64) []api.Seen {
	n, s := notesOf(l), sayGet(l, peer)
	if sayLater(boot, life, s.Boot, s.Life) {
		n[peer] = seen(peer, boot, life, s.Mine)
	}
	return n.list()
}

func sayDropped(l []api.Seen, peer int) []api.Seen {
	n, s := notesOf(l), sayGet(l, peer)
	if s.Mine < 1099511627776 {
		s.Mine++
	}
	n[peer] = s
	return n.list()
}

// sayJudge says what would do, the last judgement first: the first one of those holds.
func sayJudge(l []api.Seen, boot int64, p api.Packet) int {
	s, judgement := sayGet(l, p.From), 4
	if p.Kind == api.PkHello || p.Kind == api.PkAsk {
		judgement = 3
	}
	if p.Kind != api.PkHello && p.Echo == boot && p.EchoLife == s.Mine {
		judgement = 2
	}
	if sayLater(s.Boot, s.Life, p.Boot, p.Life) {
		judgement = 1
	}
	return judgement
}

func sayBegins(l []api.Half, p api.Packet) bool {
	for _, h := range l {
		if h.Peer == p.From {
			return sayLater(p.Boot, p.Life, h.Boot, h.Life)
		}
	}
	return true
}

func sayParts(l []api.Half, p api.Packet) bool {
	return slices.ContainsFunc(l, func(h api.Half) bool { return h.Peer == p.From && h.Boot == p.Boot && h.Life == p.Life })
}

// anyNodes are all numbers of nodes, numbers beside them and far away.
func anyNodes() []int {
	l := []int{math.MinInt, -1 << 32, 5 - 1<<32, -16, -2, -1, 16, 17, 21, 256, 1 << 32, 1<<32 + 5, math.MaxInt}
	for n := range 16 {
		l = append(l, n)
	}
	return l
}

// anyNumbers are numbers at the edges of boot numbers and lives, beside them and far away.
func anyNumbers() []int64 {
	return []int64{least, least + 1, -most - 1, -most, -1 << 32, -1, 0, 1, 2, 1 << 32, 1<<32 + 1, most - 1, most, most + 1, top - 1, top}
}

// pairs hands out incarnations, those at the edges among them.
func pairs(yield func(boot, life int64) bool) {
	for _, boot := range []int64{1, 2, 3, most - 1, most} {
		for _, life := range []int64{0, 1, 2, most - 1, most} {
			if !yield(boot, life) {
				return
			}
		}
	}
}

// subsets hands out all choices of some entries, each in their order.
func subsets(all []api.Seen) iter.Seq[[]api.Seen] {
	return func(yield func([]api.Seen) bool) {
		for mask := range 1 << len(all) {
			var l []api.Seen
			for i, x := range all {
				if mask>>i&1 == 1 {
					l = append(l, x)
				}
			}
			if !yield(l) {
				return
			}
		}
	}
}

// dice draws what is fit, by a fixed seed.
type dice struct{ *rand.Rand }

func newDice(seed int64) dice { return dice{rand.New(rand.NewSource(seed))} }

// life is one at an edge, a small one, or any.
func (d dice) life() int64 {
	switch d.Intn(4) {
	case 0:
		return []int64{0, most - 1, most}[d.Intn(3)]
	case 1:
		return d.Int63n(most + 1)
	}
	return d.Int63n(4)
}

func (d dice) boot() int64 { return max(d.life(), 1) }

// other is a node, but for one.
func (d dice) other(id int) int { return (id + 1 + d.Intn(15)) % 16 }

// entry is what is seen of a peer, such as may stand in a list.
func (d dice) entry(peer int) api.Seen {
	s := seen(peer, 0, 0, max(d.life(), 1))
	if d.Intn(4) > 0 {
		s = seen(peer, d.boot(), d.life(), d.life())
	}
	return s
}

// list is what a node has seen.
func (d dice) list(id int) []api.Seen {
	n := notes{}
	for range d.Intn(40) {
		peer := d.other(id)
		n[peer] = d.entry(peer)
	}
	return n.list()
}

// packet is a fit one to a node, mostly near to what that has seen and is itself.
func (d dice) packet(id int, boot int64, l []api.Seen) api.Packet {
	from := d.other(id)
	if len(l) > 0 && d.Intn(4) > 0 {
		from = l[d.Intn(len(l))].Peer
	}
	s := sayGet(l, from)
	p := api.Packet{Kind: api.PkHello + d.Intn(5), From: from, To: id, Boot: d.boot(), Life: d.life(), Echo: d.boot(), EchoLife: d.life()}
	if d.Intn(2) == 0 && s.Boot > 0 {
		p.Boot, p.Life = s.Boot, d.near(s.Life)
	}
	if d.Intn(3) > 0 {
		p.Echo, p.EchoLife = boot, d.near(s.Mine)
	}
	if p.Kind == api.PkHello {
		p.Echo, p.EchoLife = 0, 0
	}
	if p.Kind == api.PkAsk || p.Kind == api.PkAnswer {
		p.Items = items()[:d.Intn(3)]
	}
	return p
}

// near is a life, or one beside it.
func (d dice) near(life int64) int64 {
	return min(max(life+[]int64{-1, 0, 0, 0, 0, 1}[d.Intn(6)], 0), most)
}

// items are some that a packet may bear.
func items() []api.Item {
	return []api.Item{
		{Chan: api.Chan{Name: "a", Epoch: 7, Maker: 3, Alive: true, Kind: api.KExt, Scale: 1}, Min: api.Ext{Has: true, Value: -3, Origin: 4, Age: 5}},
		{Chan: api.Chan{Name: "m", Epoch: 1, Maker: 0, Alive: true, Kind: api.KMean, Scale: 4}, Reg: api.Reg{Ver: 1, Writer: 2, Flow: -7}, HasRest: true, Rest: 9},
	}
}

// halves are half-edges of a node, to peers of which some were seen.
func (d dice) halves(id int) []api.Half {
	var l []api.Half
	for range d.Intn(20) {
		h := half.Begin(d.other(id), d.boot(), d.life())
		h.Pending = d.Intn(2) == 0
		l = half.Put(l, half.Write(h, "m", api.Reg{Ver: 1, Writer: id, Flow: d.Int63n(9) - 4}))
	}
	return l
}

// The dice draw what is fit, and of all kinds, or the tests that lean on them would say little.
func TestDiceDrawWhatIsFit(t *testing.T) {
	d, sizes, judged, sent := newDice(14), map[int]int{}, map[int]int{}, map[[2]int]int{}
	for i := range 20000 {
		id, boot := i%16, d.boot()
		l := d.list(id)
		p := d.packet(id, boot, l)
		if !sayFit(id, l) || !wire.Fit(p) || !half.Fits(id, d.halves(id)) {
			t.Fatalf("%d: %+v, %+v", id, l, p)
		}
		sizes[len(l)]++
		judged[sayJudge(l, boot, p)]++
		sent[[2]int{sayJudge(l, boot, p), p.Kind}]++
	}
	for n := range 16 {
		if sizes[n] < 5 {
			t.Errorf("sizes %v", sizes)
		}
	}
	for j := api.JdStale; j <= api.JdPass; j++ {
		if judged[j] < 1000 {
			t.Errorf("judgements %v", judged)
		}
	}
	if len(sent) != 5+4+2+3 { // a Hello and an Ask are welcome, the others pass; no Hello is good
		t.Errorf("judgements by kinds %v", sent)
	}
}
