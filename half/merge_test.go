package half

import (
	"math"
	"testing"

	"eddy/api"
)

func TestP10_5Merge(t *testing.T) {
	h := withLines(line("a", register(3, 2, 1)), line("m", register(3, 2, 7)), line("z", register(3, 5, 1)))
	for _, c := range []struct {
		name string
		at   string
		r    api.Reg
		want bool
	}{
		{"a greater Ver", "m", register(4, 5, 9), true},
		{"a greater Ver, the least Flow", "m", register(4, 2, -api.MaxFlow), true},
		{"the greatest Ver", "m", register(api.MaxVer, 5, api.MaxFlow), true},
		{"one Ver, a smaller Writer", "z", register(3, 2, 9), true},
		{"one Ver, a greater Writer", "m", register(3, 5, 9), false},
		{"one stamp, the same", "m", register(3, 2, 7), false},
		{"one stamp, another Flow", "m", register(3, 2, 9), false},
		{"a smaller Ver", "m", register(2, 2, 9), false},
		{"the first Ver", "m", register(1, 2, 9), false},
		{"the zero one", "m", api.Reg{}, false},
		{"the zero one where there is none", "b", api.Reg{}, false},
		{"where there is none", "b", register(1, 5, 9), true},
		{"ahead of all", "0", register(1, 2, 9), true},
		{"behind all", "zz", register(1, 2, 9), true},
		{"no Flow", "b", register(1, 2, 0), true},
		{"a Writer of neither end", "m", register(9, 4, 9), false},
		{"a Writer of neither end where there is none", "b", register(9, 0, 9), false},
		{"Ver 0", "b", register(0, 2, 9), false},
		{"Ver 0, a Writer below nodes", "b", register(0, -1, 0), false},
		{"Ver below 0", "b", register(-1, 2, 9), false},
		{"Ver beyond MaxVer", "m", register(api.MaxVer+1, 2, 9), false},
		{"the greatest number as Ver", "m", register(math.MaxInt64, 2, 9), false},
		{"Flow beyond its range", "m", register(4, 2, api.MaxFlow+1), false},
		{"Flow below its range", "m", register(4, 2, -api.MaxFlow-1), false},
	} {
		want := h
		if c.want {
			want = sayWrite(h, c.at, c.r)
		}
		if got, ok := Merge(2, h, c.at, c.r); ok != c.want || !one(got, want) {
			t.Errorf("%s: Merge(2, .., %q, %v): %+v, %v", c.name, c.at, c.r, got, ok)
		}
	}
}

// Which registers are fit is asked of both ends, either way round.
func TestP10_5MergeAtBothEnds(t *testing.T) {
	for id := range api.MaxNodes {
		for peer := range api.MaxNodes {
			if id == peer {
				continue
			}
			for writer := -1; writer <= api.MaxNodes; writer++ {
				r := register(1, writer, -3)
				got, ok := Merge(id, Begin(peer, 1, 0), "m", r)
				if want := writer == id || writer == peer; ok != want || want && Reg(got, "m") != r || !want && len(got.Lines) > 0 {
					t.Fatalf("node %d, peer %d, writer %d: %+v, %v", id, peer, writer, got, ok)
				}
			}
		}
	}
}

func TestP10_5MergeByTheWords(t *testing.T) {
	all := anyRegisters()
	for _, there := range all {
		h := bare(5)
		if !sayRegister(there, 2, 5) {
			continue
		}
		if there != (api.Reg{}) {
			h = withLines(line("a", register(1, 2, 1)), line("m", there))
		}
		for _, r := range all {
			want, is := sayMerge(2, h, "m", r)
			if got, ok := Merge(2, h, "m", r); ok != is || !one(got, want) {
				t.Fatalf("Merge of %v into %v: %+v, %v", r, there, got, ok)
			}
		}
	}
}

func TestP10_5MergeWithAllLines(t *testing.T) {
	full := withLines(numbered(api.MaxChans)...)
	for _, name := range []string{"a", "ca0", "cc0", "d"} {
		for _, r := range []api.Reg{{}, register(1, 2, 7), register(api.MaxVer, 5, -7), register(9, 4, 7)} {
			if got, ok := Merge(2, full, name, r); ok || !one(got, full) {
				t.Errorf("%q, %v: %+v, %v", name, r, got, ok)
			}
		}
	}
	for i, x := range full.Lines {
		newer, older := register(x.Reg.Ver, 2, 99), register(x.Reg.Ver-1, 2, 99)
		want := as(full, func(h *api.Half) { h.Lines[i].Reg = newer })
		if got, ok := Merge(2, full, x.Name, newer); !ok || !one(got, want) {
			t.Errorf("newer, %q: %+v, %v", x.Name, got, ok)
		}
		if got, ok := Merge(2, full, x.Name, older); ok || !one(got, full) {
			t.Errorf("older, %q: %+v, %v", x.Name, got, ok)
		}
	}
}

// newestFit is the newest one of some registers that is fit for the edge of 2 and 5; the zero one, if none is.
func newestFit(l []api.Reg) api.Reg {
	var most api.Reg
	for _, r := range l {
		if sayRegister(r, 2, 5) && sayNewer(r, most) {
			most = r
		}
	}
	return most
}

// Older, newer, unfit and zero ones, three by three, in every order, and once more.
func TestP10_9ThreeInEveryOrder(t *testing.T) {
	some := []api.Reg{{}, register(1, 2, 5), register(1, 5, 6), register(2, 2, 7), register(3, 5, 0), register(api.MaxVer, 2, 8), register(4, 4, 9), register(api.MaxVer+1, 2, 9), register(5, 2, api.MaxFlow+1), register(0, 2, 1), register(-1, 5, 1)}
	for three := range subsets(some) {
		if len(three) > 3 {
			continue
		}
		for _, begin := range []api.Half{bare(5), withLines(line("a", register(7, 5, 1))), withLines(line("m", register(2, 5, 1)), line("z", register(1, 2, 2)))} {
			for row := range orders(three) {
				inWhateverOrder(t, begin, row)
			}
		}
	}
}

func inWhateverOrder(t *testing.T, begin api.Half, row []api.Reg) {
	t.Helper()
	want := sayWrite(begin, "m", newestFit(append([]api.Reg{pageOf(begin.Lines)["m"]}, row...)))
	h, newest := begin, pageOf(begin.Lines)["m"]
	for _, r := range row {
		got, ok := Merge(2, h, "m", r)
		if rises := sayRegister(r, 2, 5) && sayNewer(r, newest); ok != rises {
			t.Fatalf("%v of %v: %v", r, row, ok)
		} else if rises {
			newest = r
		}
		h = got
	}
	if !one(h, want) {
		t.Fatalf("%v: %+v, want %+v", row, h, want)
	}
	for _, r := range row {
		if got, ok := Merge(2, h, "m", r); ok || !one(got, h) {
			t.Fatalf("%v, %v once more: %+v, %v", row, r, got, ok)
		}
	}
}

// Long rows, some standing in them twice: the newest one that is fit holds, whatever came ahead of it and behind.
func TestP10_9LongRows(t *testing.T) {
	d, all := newDice(109), anyRegisters()
	for range 5000 {
		var row []api.Reg
		stamps := map[[2]int64]int{}
		for range d.Intn(30) {
			r := d.register(2, 5)
			if d.Intn(2) == 0 {
				r = all[d.Intn(len(all))]
			}
			stamp := [2]int64{r.Ver, int64(r.Writer)}
			if at, ok := stamps[stamp]; ok {
				r = row[at-1]
			}
			row = append(row, r)
			stamps[stamp] = len(row)
		}
		inWhateverOrder(t, bare(5), row)
		d.Shuffle(len(row), func(i, j int) { row[i], row[j] = row[j], row[i] })
		inWhateverOrder(t, withLines(line("0", register(1, 2, 3))), row)
	}
}
