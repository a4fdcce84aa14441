package half

import (
	"testing"

	"eddy/api"
)

// What comes of what is fit is fit, call by call, in long rows; and each is what the words say of it.
func TestP10_8WhatComesIsFit(t *testing.T) {
	d := newDice(108)
	for range 400 {
		id := d.Intn(api.MaxNodes)
		l := d.halves(id)
		for range 60 {
			l = d.turn(t, id, l)
			if !Fits(id, l) || !sayFits(id, l) {
				t.Fatalf("node %d: %+v", id, l)
			}
		}
	}
}

// turn is the list behind one call, held against what the words say.
func (d dice) turn(t *testing.T, id int, l []api.Half) []api.Half {
	t.Helper()
	h, name := d.half(id), d.name()
	if len(l) > 0 && d.Intn(2) == 0 {
		h = l[d.Intn(len(l))]
	}
	r, s := d.register(id, h.Peer), shelfOf(l)
	var got api.Half
	switch d.Intn(6) {
	case 0:
		_, there := s[h.Peer]
		delete(s, h.Peer)
		left, ok := Drop(l, h.Peer)
		if ok != there || !alike(left, s.list()) {
			t.Fatalf("Drop %d of %+v: %+v, %v", h.Peer, l, left, ok)
		}
		return left
	case 1:
		for peer := range s {
			s[peer] = sayWrite(s[peer], name, api.Reg{})
		}
		left := Forget(l, name)
		if !alike(left, s.list()) {
			t.Fatalf("Forget %q of %+v: %+v", name, l, left)
		}
		return left
	case 2, 3:
		got = Write(h, name, r)
		if !one(got, sayWrite(h, name, r)) {
			t.Fatalf("Write(%+v, %q, %v): %+v", h, name, r, got)
		}
	default:
		x, ok := Merge(id, h, name, r)
		if want, is := sayMerge(id, h, name, r); ok != is || !one(x, want) {
			t.Fatalf("Merge(%d, %+v, %q, %v): %+v, %v", id, h, name, r, x, ok)
		}
		got = x
	}
	if !Fit(id, got) {
		t.Fatalf("node %d: %+v", id, got)
	}
	s[h.Peer] = got
	put := Put(l, got)
	if !alike(put, s.list()) {
		t.Fatalf("Put(%+v, %+v): %+v", l, got, put)
	}
	return put
}

func TestP10_8BeginIsFit(t *testing.T) {
	for id := range api.MaxNodes {
		for peer := range api.MaxNodes {
			for _, boot := range []int64{1, 2, api.MaxBoot} {
				for _, life := range []int64{0, 1, api.MaxLife} {
					if Fit(id, Begin(peer, boot, life)) != (id != peer) {
						t.Fatalf("node %d: Begin(%d, %d, %d)", id, peer, boot, life)
					}
				}
			}
		}
	}
}

// putRight holds Put to what follows of it: what was put is found, others as they were; dropped again, the others are left.
func putRight(t *testing.T, l []api.Half, h api.Half) {
	t.Helper()
	_, there := shelfOf(l)[h.Peer]
	put := Put(l, h)
	if got, ok := Find(put, h.Peer); !ok || !one(got, h) {
		t.Fatalf("Find of what was put among %+v: %+v, %v", l, got, ok)
	}
	for _, peer := range anyPeers() {
		if peer == h.Peer {
			continue
		}
		was, is := Find(l, peer)
		if got, ok := Find(put, peer); ok != is || !one(got, was) {
			t.Fatalf("Find %d behind Put %d: %+v, %v", peer, h.Peer, got, ok)
		}
	}
	left, ok := Drop(put, h.Peer)
	if !ok || !there && !alike(left, l) {
		t.Fatalf("Put and Drop %d of %+v: %+v, %v", h.Peer, l, left, ok)
	}
	if got, ok := Find(left, h.Peer); ok || !one(got, api.Half{}) {
		t.Fatalf("Find of what was dropped: %+v, %v", got, ok)
	}
	if twice := Put(put, h); !alike(twice, put) {
		t.Fatalf("Put twice: %+v", twice)
	}
}

func TestP10_10PutFindDrop(t *testing.T) {
	for l := range lists {
		for _, peer := range []int{0, 1, 3, 4, 9, 13, 14, 15} {
			putRight(t, l, edge(peer))
			putRight(t, l, bare(peer))
		}
	}
	d := newDice(110)
	for range 2000 {
		id := d.Intn(api.MaxNodes)
		putRight(t, d.halves(id), d.half(id))
	}
}
