package half

import (
	"math"
	"slices"
	"testing"

	"eddy/api"
)

func TestExample1(t *testing.T) {
	h := Write(Begin(5, 3, 0), "m", register(1, 2, 7))
	if !one(h, api.Half{Peer: 5, Boot: 3, Lines: []api.Line{line("m", register(1, 2, 7))}}) {
		t.Errorf("Write: %+v", h)
	}
	if Reg(h, "m") != register(1, 2, 7) || Reg(h, "n") != (api.Reg{}) {
		t.Errorf("Reg: %v, %v", Reg(h, "m"), Reg(h, "n"))
	}
	if got, ok := Merge(2, h, "m", register(1, 5, 9)); ok || !one(got, h) {
		t.Errorf("Merge of an older one: %+v, %v", got, ok)
	}
	if got, ok := Merge(2, h, "m", register(2, 5, 9)); !ok || Reg(got, "m") != register(2, 5, 9) || len(got.Lines) != 1 {
		t.Errorf("Merge of a newer one: %+v, %v", got, ok)
	}
	if got, ok := Merge(2, h, "m", register(3, 4, 9)); ok || !one(got, h) {
		t.Errorf("Merge of one of another edge: %+v, %v", got, ok)
	}
}

func TestExample2(t *testing.T) {
	h := Write(Begin(5, 3, 0), "m", register(1, 2, 7))
	if got := Forget([]api.Half{h}, "m"); len(got) != 1 || len(got[0].Lines) != 0 || got[0].Peer != 5 {
		t.Errorf("Forget: %+v", got)
	}
	l := edges(1, 5)
	if got, ok := Drop(l, 5); !ok || !alike(got, edges(1)) {
		t.Errorf("Drop 5: %+v, %v", got, ok)
	}
	if got, ok := Drop(l, 4); ok || !alike(got, l) {
		t.Errorf("Drop 4: %+v, %v", got, ok)
	}
}

// lists are such of none, of one, of several and of all half-edges that node 2 may have.
func lists(yield func([]api.Half) bool) {
	for peers := range subsets([]int{0, 1, 4, 9, 14, 15}) {
		if !yield(edges(peers...)) {
			return
		}
	}
	yield(edges(0, 1, 3, 4, 5, 6, 7, 8, 9, 10, 11, 12, 13, 14, 15))
}

func TestP10_2FindAndDrop(t *testing.T) {
	for l := range lists {
		for _, peer := range anyPeers() {
			s := shelfOf(l)
			want, there := s[peer]
			if got, ok := Find(l, peer); ok != there || !one(got, want) {
				t.Fatalf("Find %d of %v: %+v, %v", peer, Peers(l), got, ok)
			}
			delete(s, peer)
			if got, ok := Drop(l, peer); ok != there || !alike(got, s.list()) {
				t.Fatalf("Drop %d of %v: %+v, %v", peer, Peers(l), got, ok)
			}
		}
	}
}

func TestP10_2Put(t *testing.T) {
	for l := range lists {
		for peer := range api.MaxNodes {
			if peer == 2 {
				continue
			}
			for _, h := range []api.Half{edge(peer), bare(peer), as(edge(peer), func(h *api.Half) { h.Boot, h.Pending, h.Misses = 9, false, 0 })} {
				s := shelfOf(l)
				s[peer] = h
				if got := Put(l, h); !alike(got, s.list()) {
					t.Fatalf("Put %d among %v: %+v", peer, Peers(l), got)
				}
			}
		}
	}
}

func TestP10_2PutAndDropInAllOrders(t *testing.T) {
	all := []int{0, 3, 5, 9, 15}
	for coming := range orders(all) {
		var l []api.Half
		for _, peer := range coming {
			l = Put(l, edge(peer))
		}
		if !alike(l, edges(all...)) {
			t.Fatalf("put as %v: %+v", coming, l)
		}
		for i, peer := range coming {
			rest, ok := Drop(l, peer)
			if !ok || len(rest) != len(all)-i-1 || !sayFits(2, rest) {
				t.Fatalf("drop %d: %+v, %v", peer, rest, ok)
			}
			l = rest
		}
	}
}

func TestP10_3Begin(t *testing.T) {
	for _, peer := range anyPeers() {
		for _, boot := range []int64{math.MinInt64, 0, 1, 3, api.MaxBoot, api.MaxBoot + 1} {
			for _, life := range []int64{-1, 0, 2, api.MaxLife, math.MaxInt64} {
				h := Begin(peer, boot, life)
				if h.Peer != peer || h.Boot != boot || h.Life != life || len(h.Lines) != 0 || h.Pending || h.Misses != 0 {
					t.Fatalf("Begin(%d, %d, %d): %+v", peer, boot, life, h)
				}
				if Fit(2, h) != sayFit(2, h) {
					t.Fatalf("Begin(%d, %d, %d): fit: %v", peer, boot, life, Fit(2, h))
				}
			}
		}
	}
}

// pages are half-edges from 2 to 5 with none, one, several and MaxChans lines.
func pages(yield func(api.Half) bool) {
	for names := range subsets([]string{"0", "9z", "_", "a", "a0", "aa", "m", "z", "zz"}) {
		if len(names) > api.MaxChans {
			continue
		}
		h := api.Half{Peer: 5, Boot: 3, Life: 4, Pending: true, Misses: 1}
		for i, n := range names {
			h.Lines = append(h.Lines, line(n, register(int64(i+1), 2, int64(i)-3)))
		}
		if !yield(h) {
			return
		}
	}
}

// asked are the names that pages have, and such as stand ahead of all, between and behind all.
func asked() []string {
	return []string{"0", "00", "1", "9z", "_", "__", "a", "a0", "a_", "aa", "b", "m", "mm", "z", "zz", "zzzzzzzzzzzzzzzz"}
}

func TestP10_4Reg(t *testing.T) {
	for h := range pages {
		for _, name := range asked() {
			if got, want := Reg(h, name), pageOf(h.Lines)[name]; got != want {
				t.Fatalf("Reg(%v, %q): %v, want %v", h.Lines, name, got, want)
			}
		}
	}
}

func TestP10_4Write(t *testing.T) {
	some := []api.Reg{{}, register(1, 2, 7), register(9, 5, -7), register(api.MaxVer, 5, 0), register(1, 4, 7), register(0, 0, 1), register(0, 1, 0), register(-1, 0, 0)}
	for h := range pages {
		for _, name := range asked() {
			for _, r := range some {
				got, want := Write(h, name, r), sayWrite(h, name, r)
				if !one(got, want) {
					t.Fatalf("Write(%v, %q, %v): %+v, want %+v", h.Lines, name, r, got, want)
				}
				if left := len(h.Lines) == api.MaxChans && pageOf(h.Lines)[name] == (api.Reg{}); !left && Reg(got, name) != r {
					t.Fatalf("Write(%v, %q, %v): Reg %v", h.Lines, name, r, Reg(got, name))
				}
			}
		}
	}
}

func TestP10_4WriteOfAnyRegister(t *testing.T) {
	for _, r := range anyRegisters() {
		for _, name := range []string{"a", "b", "m", "zz"} {
			if got := Write(edge(5), name, r); !one(got, sayWrite(edge(5), name, r)) || Reg(got, name) != r {
				t.Fatalf("Write(.., %q, %v): %+v", name, r, got)
			}
		}
	}
}

func TestP10_4WriteWithAllLines(t *testing.T) {
	full := withLines(numbered(api.MaxChans)...)
	for _, name := range []string{"a", "ca0", "cc0", "cz", "d"} {
		if got := Write(full, name, register(9, 2, 9)); !one(got, full) {
			t.Errorf("Write of one more, %q: %+v", name, got)
		}
		if got := Write(full, name, api.Reg{}); !one(got, full) {
			t.Errorf("Write of the zero one, %q: %+v", name, got)
		}
	}
	for i, x := range full.Lines {
		got := Write(full, x.Name, register(9, 2, 9))
		want := as(full, func(h *api.Half) { h.Lines[i].Reg = register(9, 2, 9) })
		if !one(got, want) {
			t.Errorf("Write of %q: %+v", x.Name, got)
		}
		got = Write(full, x.Name, api.Reg{})
		want = as(full, func(h *api.Half) { h.Lines = slices.Delete(h.Lines, i, i+1) })
		if !one(got, want) {
			t.Errorf("Write of the zero one, %q: %+v", x.Name, got)
		}
		again := Write(got, "d", register(1, 5, 1))
		if len(again.Lines) != api.MaxChans || again.Lines[api.MaxChans-1] != line("d", register(1, 5, 1)) || !Fit(2, again) {
			t.Errorf("one in the place of %q: %+v", x.Name, again)
		}
	}
	if got := withLines(numbered(api.MaxChans - 1)...); len(Write(got, "d", register(1, 5, 1)).Lines) != api.MaxChans {
		t.Error("the last line has no room")
	}
}

func TestP10_6Forget(t *testing.T) {
	for l := range lists {
		for _, name := range []string{"a", "m", "z_9", "b", "0", "zz"} {
			var want []api.Half
			for _, h := range l {
				want = append(want, sayWrite(h, name, api.Reg{}))
			}
			got := Forget(l, name)
			if !alike(got, want) {
				t.Fatalf("Forget %q: %+v", name, got)
			}
			for _, h := range got {
				if Reg(h, name) != (api.Reg{}) || len(h.Lines) > 3 || h.Lines[0].Reg == (api.Reg{}) {
					t.Fatalf("Forget %q: %+v", name, h)
				}
			}
		}
	}
	mixed := []api.Half{bare(0), edge(1), withLines(line("m", register(1, 2, 7))), withLines(numbered(api.MaxChans)...)}
	mixed[3].Peer = 9
	want := []api.Half{bare(0), as(edge(1), func(h *api.Half) { h.Lines = slices.Delete(h.Lines, 1, 2) }), withLines(), mixed[3]}
	if got := Forget(mixed, "m"); !alike(got, want) {
		t.Errorf("Forget: %+v", got)
	}
}

func TestP10_7PeersAndCopy(t *testing.T) {
	for peers := range subsets([]int{0, 1, 4, 9, 14, 15}) {
		l := edges(peers...)
		if got := Peers(l); !slices.Equal(got, peers) {
			t.Fatalf("Peers: %v, want %v", got, peers)
		}
		if got := Copy(l); !alike(got, l) || !Same(got, l) {
			t.Fatalf("Copy: %+v, want %+v", got, l)
		}
	}
	if len(Peers([]api.Half{})) != 0 || len(Copy([]api.Half{})) != 0 || len(Copy(nil)) != 0 {
		t.Error("of none something comes")
	}
	l := []api.Half{bare(1), edge(5), withLines(numbered(api.MaxChans)...)}
	if got := Copy(l); !alike(got, l) {
		t.Errorf("Copy: %+v", got)
	}
}
