package shake

import (
	"math"
	"reflect"
	"slices"
	"testing"

	"eddy/api"
	"eddy/half"
)

// roomy is the same list with room behind its end, in which entries lie.
func roomy(l []api.Seen) []api.Seen {
	return append(slices.Clone(l), seen(13, 9, 9, 9), seen(5, 9, 9, 9), seen(-7, -7, -7, -7))[:len(l)]
}

// whole is all that lies in a list and in its spare room.
func whole(l []api.Seen) []api.Seen { return slices.Clone(l[:cap(l)]) }

// spoil writes over all that lies in a list and in its spare room.
func spoil(l []api.Seen) {
	for i := range l[:cap(l)] {
		l[:cap(l)][i] = seen(-8, -8, -8, -8)
	}
}

// calls are all calls that a list comes out of.
func calls() map[string]func(l []api.Seen) []api.Seen {
	see := func(peer int, boot, life int64) func(l []api.Seen) []api.Seen {
		return func(l []api.Seen) []api.Seen { return See(l, peer, boot, life) }
	}
	dropped := func(peer int) func(l []api.Seen) []api.Seen {
		return func(l []api.Seen) []api.Seen { return Dropped(l, peer) }
	}
	return map[string]func(l []api.Seen) []api.Seen{
		"See a later one, first": see(2, 20, 0), "See a later one, in the middle": see(5, 20, 0), "See a later one, last": see(12, 20, 0),
		"See an earlier one": see(2, 1, 0), "See the same": see(5, 3, 1), "See nothing": see(5, 0, 0), "See nothing of one that is not there": see(6, 0, 0),
		"See one more, first": see(0, 1, 0), "See one more, between": see(6, 1, 0), "See one more, last": see(15, 1, 0), "See one that lies behind": see(13, 1, 0),
		"Dropped, first": dropped(2), "Dropped, in the middle": dropped(5), "Dropped, last": dropped(12), "Dropped at the greatest life": dropped(9),
		"Dropped, one more, first": dropped(0), "Dropped, one more, between": dropped(6), "Dropped, one more, last": dropped(15), "Dropped, one that lies behind": dropped(13),
	}
}

// given are the lists that the calls are handed: of none, of one, of some, of all that there can be.
func given() [][]api.Seen {
	return [][]api.Seen{nil, {}, {seen(5, 3, 1, 4)}, {seen(2, 9, 8, 7)}, three(), {seen(2, 9, 8, 7), seen(5, 3, 1, 4), seen(9, 0, 0, most), seen(12, 0, 0, 6)}, everybody(8)}
}

func TestWhatIsHandedInStays(t *testing.T) {
	for name, call := range calls() {
		for _, l := range given() {
			in := roomy(l)
			was := whole(in)
			out := call(in)
			if !slices.Equal(whole(in), was) {
				t.Errorf("%s of %+v: what was handed in is %+v, was %+v", name, l, whole(in), was)
			}
			keep := slices.Clone(out)
			spoil(in)
			if !slices.Equal(out, keep) {
				t.Errorf("%s of %+v: the answer hangs on what was handed in: %+v, was %+v", name, l, out, keep)
			}
		}
	}
}

func TestWhatComesOutIsNewMemory(t *testing.T) {
	for name, call := range calls() {
		for _, l := range given() {
			in := roomy(l)
			was := whole(in)
			out, again := call(in), call(in)
			keep := slices.Clone(again)
			spoil(out)
			if !slices.Equal(whole(in), was) {
				t.Errorf("%s of %+v: writing over the answer changes what was handed in: %+v, was %+v", name, l, whole(in), was)
			}
			if !slices.Equal(again, keep) || !slices.Equal(call(in), keep) {
				t.Errorf("%s of %+v: writing over one answer changes another one", name, l)
			}
		}
	}
}

// A list that is gone on with in two ways keeps both apart.
func TestTwoWaysOn(t *testing.T) {
	l := See(nil, 5, 3, 1)
	a, b, c := See(l, 9, 1, 0), See(l, 10, 1, 0), Dropped(l, 5)
	if !slices.Equal(l, []api.Seen{seen(5, 3, 1, 0)}) || !slices.Equal(a, []api.Seen{seen(5, 3, 1, 0), seen(9, 1, 0, 0)}) || !slices.Equal(b, []api.Seen{seen(5, 3, 1, 0), seen(10, 1, 0, 0)}) || !slices.Equal(c, []api.Seen{seen(5, 3, 1, 1)}) {
		t.Errorf("%+v, %+v, %+v, %+v", l, a, b, c)
	}
}

// What lies in spare room plays no part: all answers are those to lists without any; nil and empty are the same.
func TestSpareRoomPlaysNoPart(t *testing.T) {
	for _, l := range given() {
		with, without := roomy(l), slices.Clip(slices.Clone(l))
		for name, call := range calls() {
			if got, want := call(with), call(without); !slices.Equal(got, want) {
				t.Errorf("%s of %+v: %+v, want %+v", name, l, got, want)
			}
		}
		for peer := range 16 {
			p := packet(api.PkAsk, peer, 8, 8, 7, 9)
			if Get(with, peer) != sayGet(l, peer) || Judge(with, 7, p) != sayJudge(l, 7, p) || Hello(8, 7, with, peer).Life != sayGet(l, peer).Mine || Welcome(8, 7, with, p).Life != sayGet(l, peer).Mine {
				t.Errorf("%+v, of %d: %+v, %d", l, peer, Get(with, peer), Judge(with, 7, p))
			}
		}
		if !Fit(8, with[:0]) || Fit(8, with) != sayFit(8, l) {
			t.Errorf("Fit of %+v", l)
		}
	}
}

// handed is all that calls are handed which tell no list: a list, half-edges with lines, and a packet with Items, each
// with room behind its end.
type handed struct {
	l      []api.Seen
	halves []api.Half
	p      api.Packet
}

func newHanded() handed {
	h := handed{l: roomy(three()), p: packet(api.PkAsk, 5, 3, 1, 7, 4)}
	h.p.Items = items()[:1]
	for _, peer := range []int{2, 5, 9, 11} {
		x := half.Begin(peer, 3, 1)
		x.Lines = []api.Line{{Name: "m", Reg: api.Reg{Ver: 1, Writer: peer, Flow: 7}}, {Name: "!", Reg: api.Reg{Ver: -7}}}[:1]
		h.halves = append(h.halves, x)
	}
	h.halves = h.halves[:3]
	return h
}

// whole is the same with all that lies in spare room as well, in memory of its own.
func (h handed) whole() handed {
	w := handed{l: whole(h.l), p: h.p}
	for _, x := range h.halves[:cap(h.halves)] {
		x.Lines = slices.Clone(x.Lines[:cap(x.Lines)])
		w.halves = append(w.halves, x)
	}
	w.p.Items = slices.Clone(h.p.Items[:cap(h.p.Items)])
	return w
}

// spoil writes over what lists share.
func (h handed) spoil() {
	spoil(h.l)
	clear(h.p.Items[:cap(h.p.Items)])
	for _, x := range h.halves[:cap(h.halves)] {
		clear(x.Lines[:cap(x.Lines)])
	}
	clear(h.halves)
}

func TestWhatIsReadStays(t *testing.T) {
	h := newHanded()
	was := h.whole()
	for peer := range 16 {
		h.p.From = peer
		Fit(peer, h.l)
		Get(h.l, peer)
		Judge(h.l, 7, h.p)
		Begins(h.halves, h.p)
		Parts(h.halves, h.p)
		Hello(1, 7, h.l, peer)
		Welcome(1, 7, h.l, h.p)
	}
	h.p.From = was.p.From
	if now := h.whole(); !reflect.DeepEqual(now, was) {
		t.Errorf("what was handed in is %+v, was %+v", now, was)
	}
}

// Packets that come out share nothing with what was handed in: they have no Items at all.
func TestPacketsAreNewMemory(t *testing.T) {
	h := newHanded()
	hello, welcome, entry := Hello(1, 7, h.l, 5), Welcome(1, 7, h.l, h.p), Get(h.l, 5)
	if hello.Items != nil || welcome.Items != nil {
		t.Errorf("%+v, %+v", hello, welcome)
	}
	h.spoil()
	if !same(hello, api.Packet{Kind: api.PkHello, From: 1, To: 5, Boot: 7, Life: 4}) || !same(welcome, api.Packet{Kind: api.PkWelcome, From: 1, To: 5, Boot: 7, Life: 4, Echo: 3, EchoLife: 1}) || entry != seen(5, 3, 1, 4) {
		t.Errorf("%+v, %+v, %+v", hello, welcome, entry)
	}
}

// Every call ends and none panics, at all arguments.
func TestNothingPanics(t *testing.T) {
	d := newDice(1)
	node := func() int { return anyNodes()[d.Intn(len(anyNodes()))] }
	number := func() int64 { return anyNumbers()[d.Intn(len(anyNumbers()))] }
	for range 30000 {
		var l []api.Seen
		for range d.Intn(20) {
			l = append(l, seen(node(), number(), number(), number()))
		}
		var halves []api.Half
		for range d.Intn(6) {
			halves = append(halves, api.Half{Peer: node(), Boot: number(), Life: number(), Lines: make([]api.Line, d.Intn(3)), Misses: node()})
		}
		p := api.Packet{Kind: node(), From: node(), To: node(), Boot: number(), Life: number(), Echo: number(), EchoLife: number(), Items: make([]api.Item, d.Intn(12))}
		peer, was := node(), slices.Clone(l)
		if d.Intn(2) == 0 && len(l) > 0 {
			peer = l[d.Intn(len(l))].Peer
			p.From = peer
		}
		Fit(peer, l)
		Get(l, peer)
		See(l, peer, number(), number())
		Dropped(l, peer)
		if j := Judge(l, number(), p); j < api.JdStale || j > api.JdPass {
			t.Fatalf("Judge: %d", j)
		}
		Begins(halves, p)
		Parts(halves, p)
		Hello(node(), number(), l, peer)
		Welcome(node(), number(), l, p)
		if !slices.Equal(l, was) {
			t.Fatalf("an unfit list is changed: %+v, was %+v", l, was)
		}
	}
}

// Very long lists, which are not fit, are gone through as well.
func TestUnfitOnesEnd(t *testing.T) {
	long := make([]api.Seen, 300000)
	for _, peer := range []int{math.MinInt, -1, 0, 5, 16, math.MaxInt} {
		Fit(peer, long)
		Get(long, peer)
		See(long, peer, 1, 0)
		Dropped(long, peer)
		Judge(long, 7, api.Packet{Kind: api.PkAsk, From: peer})
	}
}
