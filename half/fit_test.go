package half

import (
	"math"
	"slices"
	"strings"
	"testing"

	"eddy/api"
)

type fitCase struct {
	name string
	id   int
	h    api.Half
	want bool
}

func fitsAre(t *testing.T, cases []fitCase) {
	t.Helper()
	for _, c := range cases {
		if sayFit(c.id, c.h) != c.want {
			t.Fatalf("%s: the case itself is wrong", c.name)
		}
		if Fit(c.id, c.h) != c.want {
			t.Errorf("%s: Fit(%d, %+v): %v", c.name, c.id, c.h, !c.want)
		}
		if Fits(c.id, []api.Half{c.h}) != c.want {
			t.Errorf("%s: Fits(%d, one: %+v): %v", c.name, c.id, c.h, !c.want)
		}
	}
}

func withLines(l ...api.Line) api.Half {
	return as(edge(5), func(h *api.Half) { h.Lines = l })
}

// numbered are n lines whose names rise.
func numbered(n int) []api.Line {
	var l []api.Line
	for i := range n {
		l = append(l, line("c"+string([]byte{'a' + byte(i)}), register(int64(i+1), 5, int64(i))))
	}
	return l
}

func TestP10_1FitOfWhatItNames(t *testing.T) {
	cases := []fitCase{{"all that may be", 2, edge(5), true}, {"nothing that need not be", 2, bare(5), true}, {"nothing", 2, api.Half{}, false}, {"at its other end", 5, edge(5), false}, {"a node that its registers are not of", 3, edge(5), false}}
	for _, boot := range []int64{math.MinInt64, -api.MaxBoot, -1, 0, 1, 2, 1 << 32, api.MaxBoot - 1, api.MaxBoot, api.MaxBoot + 1, math.MaxInt64} {
		is := boot >= 1 && boot <= 1<<40
		cases = append(cases, fitCase{"Boot", 2, as(edge(5), func(h *api.Half) { h.Boot = boot }), is}, fitCase{"Boot, bare", 2, as(bare(5), func(h *api.Half) { h.Boot = boot }), is})
	}
	for _, life := range []int64{math.MinInt64, -api.MaxLife, -1, 0, 1, 1 << 32, api.MaxLife - 1, api.MaxLife, api.MaxLife + 1, math.MaxInt64} {
		is := life >= 0 && life <= 1<<40
		cases = append(cases, fitCase{"Life", 2, as(edge(5), func(h *api.Half) { h.Life = life }), is}, fitCase{"Life, bare", 2, as(bare(5), func(h *api.Half) { h.Life = life }), is})
	}
	for _, misses := range []int{math.MinInt, -1, 0, 1, api.MissLimit - 1, api.MissLimit, api.MissLimit + 1, math.MaxInt} {
		pending := as(bare(5), func(h *api.Half) { h.Pending, h.Misses = true, misses })
		still := as(bare(5), func(h *api.Half) { h.Pending, h.Misses = false, misses })
		cases = append(cases, fitCase{"Misses of what is pending", 2, pending, misses >= 0 && misses <= 2}, fitCase{"Misses, nothing pending", 2, still, misses == 0})
	}
	fitsAre(t, cases)
}

// An id and a Peer are unlike nodes' numbers, with lines and without.
func TestP10_1FitOfAllEnds(t *testing.T) {
	for _, id := range anyPeers() {
		for _, peer := range anyPeers() {
			want := id != peer && min(id, peer) >= 0 && max(id, peer) <= 15
			of := as(bare(peer), func(h *api.Half) { h.Lines = []api.Line{line("m", register(1, peer, 7))} })
			by := as(bare(peer), func(h *api.Half) { h.Lines = []api.Line{line("m", register(1, id, 7))} })
			fitsAre(t, []fitCase{{"bare", id, bare(peer), want}, {"the peer's register", id, of, want}, {"the node's register", id, by, want}})
		}
	}
}

func TestP10_1FitOfNames(t *testing.T) {
	r := register(1, 2, 7)
	cases := []fitCase{{"a text that is two bytes", 2, withLines(line("é", r)), false}}
	for n := range api.MaxName + 3 {
		is := n >= 1 && n <= 16
		cases = append(cases, fitCase{"length", 2, withLines(line(strings.Repeat("q", n), r)), is})
		cases = append(cases, fitCase{"length, behind another one", 2, withLines(line("a", r), line(strings.Repeat("q", n), r)), is})
	}
	cases = append(cases, fitCase{"far too long", 2, withLines(line(strings.Repeat("q", 300), r)), false})
	const letters = "abcdefghijklmnopqrstuvwxyz0123456789_"
	for c := range 256 {
		b, is := string([]byte{byte(c)}), strings.IndexByte(letters, byte(c)) >= 0
		for _, name := range []string{b, b + "a", "a" + b, "0" + b + "_", strings.Repeat("q", 15) + b, b + strings.Repeat("q", 15)} {
			cases = append(cases, fitCase{"a byte", 2, withLines(line(name, r)), is})
		}
	}
	fitsAre(t, cases)
}

func TestP10_1FitOfLines(t *testing.T) {
	r := register(1, 2, 7)
	cases := []fitCase{
		{"a zero register", 2, withLines(line("m", api.Reg{})), false},
		{"a zero register first", 2, withLines(line("a", api.Reg{}), line("m", r)), false},
		{"a zero register last", 2, withLines(line("a", r), line("m", api.Reg{})), false},
		{"a register of others last", 2, withLines(line("a", r), line("m", register(1, 4, 7))), false},
		{"a register of others first", 2, withLines(line("a", register(1, 4, 7)), line("m", r)), false},
		{"a name twice", 2, withLines(line("m", r), line("m", r)), false},
		{"a name twice, unlike registers", 2, withLines(line("m", r), line("m", register(2, 5, 7))), false},
		{"a name twice, the last", 2, withLines(line("a", r), line("m", r), line("m", r)), false},
		{"names that fall", 2, withLines(line("m", r), line("a", r)), false},
		{"names that fall at last", 2, withLines(line("a", r), line("z", r), line("m", r)), false},
		{"names that rise byte by byte", 2, withLines(line("0", r), line("9", r), line("_", r), line("a", r), line("a0", r), line("a_", r), line("aa", r), line("b", r)), true},
		{"the longer one ahead", 2, withLines(line("aa", r), line("a", r)), false},
		{"a letter ahead of a digit", 2, withLines(line("a", r), line("0", r)), false},
		{"a letter ahead of _", 2, withLines(line("a", r), line("_", r)), false},
		{"no name", 2, withLines(line("", r)), false},
		{"no name behind one", 2, withLines(line("a", r), line("", r)), false},
	}
	for n := range 2*api.MaxChans + 2 {
		cases = append(cases, fitCase{"so many lines", 2, withLines(numbered(n)...), n <= 8})
	}
	for _, r := range anyRegisters() {
		zero := r == api.Reg{}
		cases = append(cases, fitCase{"any register", 2, withLines(line("m", r)), !zero && sayRegister(r, 2, 5)})
		cases = append(cases, fitCase{"any register, from above", 5, as(withLines(line("a", register(1, 5, 1)), line("m", r)), func(h *api.Half) { h.Peer = 2 }), !zero && sayRegister(r, 5, 2)})
		cases = append(cases, fitCase{"any register, node 0", 0, withLines(line("m", r)), !zero && sayRegister(r, 0, 5)})
	}
	fitsAre(t, cases)
}

// Of all orders of some names one rises.
func TestP10_1NamesInAllOrders(t *testing.T) {
	rising := 0
	for names := range orders([]string{"a", "a0", "b", "m"}) {
		var l []api.Line
		for _, n := range names {
			l = append(l, line(n, register(1, 5, 7)))
		}
		if Fit(2, withLines(l...)) != slices.IsSorted(names) {
			t.Errorf("names %v", names)
		}
		if slices.IsSorted(names) {
			rising++
		}
	}
	if rising != 1 {
		t.Errorf("%d orders rise", rising)
	}
}

func TestP10_1FitsOfLists(t *testing.T) {
	odd := as(edge(5), func(h *api.Half) { h.Boot = 0 })
	for _, c := range []struct {
		name string
		id   int
		l    []api.Half
		want bool
	}{
		{"nil", 2, nil, true},
		{"none", 2, []api.Half{}, true},
		{"none of node 0", 0, nil, true},
		{"none of node 15", 15, nil, true},
		{"none of no node", -1, nil, false},
		{"none of no node either", 16, nil, false},
		{"none of the least number", math.MinInt, nil, false},
		{"none of the greatest number", math.MaxInt, nil, false},
		{"one", 2, edges(5), true},
		{"one of no node", 16, []api.Half{bare(5)}, false},
		{"several", 2, edges(0, 1, 3, 9, 15), true},
		{"all", 2, edges(0, 1, 3, 4, 5, 6, 7, 8, 9, 10, 11, 12, 13, 14, 15), true},
		{"itself among them", 2, []api.Half{bare(1), bare(2), bare(3)}, false},
		{"twice", 2, edges(5, 5), false},
		{"twice, unlike", 2, []api.Half{edge(5), bare(5)}, false},
		{"twice at last", 2, edges(1, 5, 5), false},
		{"peer 0 twice", 2, edges(0, 0, 5), false},
		{"falling", 2, edges(5, 1), false},
		{"falling at last", 2, edges(1, 9, 5), false},
		{"falling to 0", 2, edges(1, 0), false},
		{"an unfit one alone", 2, []api.Half{odd}, false},
		{"an unfit one first", 2, []api.Half{odd, edge(9)}, false},
		{"an unfit one between", 2, []api.Half{edge(1), odd, edge(9)}, false},
		{"an unfit one last", 2, []api.Half{edge(1), odd}, false},
		{"a peer below nodes", 2, []api.Half{bare(-1), edge(1)}, false},
		{"a peer beyond nodes", 2, []api.Half{edge(1), bare(16)}, false},
		{"of another node", 3, edges(5, 9), false},
	} {
		if sayFits(c.id, c.l) != c.want {
			t.Fatalf("%s: the case itself is wrong", c.name)
		}
		if Fits(c.id, c.l) != c.want {
			t.Errorf("%s: Fits(%d, %+v): %v", c.name, c.id, c.l, !c.want)
		}
	}
}

func TestP10_1FitsInAllOrders(t *testing.T) {
	for peers := range orders([]int{0, 1, 7, 15}) {
		for n := range len(peers) + 1 {
			if got := Fits(2, edges(peers[:n]...)); got != slices.IsSorted(peers[:n]) {
				t.Errorf("peers %v: %v", peers[:n], got)
			}
		}
	}
}

// One thing is changed at half-edges that are fit: what the words say is what comes.
func TestP10_1FitByTheWords(t *testing.T) {
	d, fit := newDice(101), 0
	for range 40000 {
		id := d.Intn(api.MaxNodes)
		l := d.halves(id)
		if !Fits(id, l) {
			t.Fatalf("Fits(%d, %+v): false", id, l)
		}
		for range d.Intn(3) {
			l, id = d.spoilt(l, id)
		}
		want := sayFits(id, l)
		if Fits(id, l) != want {
			t.Fatalf("Fits(%d, %+v): %v", id, l, !want)
		}
		for _, h := range l {
			if Fit(id, h) != sayFit(id, h) {
				t.Fatalf("Fit(%d, %+v): %v", id, h, Fit(id, h))
			}
		}
		if want {
			fit++
		}
	}
	if fit < 4000 || fit > 36000 {
		t.Errorf("%d of 40000 are fit", fit)
	}
}

// spoilt is a list in which something is changed, mostly so that it is fit no more; or another node's.
func (d dice) spoilt(l []api.Half, id int) ([]api.Half, int) {
	l = allApart(l)
	if len(l) == 0 || d.Intn(12) == 0 {
		return l, d.Intn(20) - 2
	}
	i, j := d.Intn(len(l)), d.Intn(len(l))
	h := &l[i]
	switch d.Intn(9) {
	case 0:
		l[i], l[j] = l[j], l[i]
	case 1:
		h.Peer += d.Intn(5) - 2
	case 2:
		h.Boot = []int64{0, 1, api.MaxBoot, api.MaxBoot + 1}[d.Intn(4)]
	case 3:
		h.Life = []int64{-1, 0, api.MaxLife, api.MaxLife + 1}[d.Intn(4)]
	case 4:
		h.Misses = d.Intn(5) - 1
	case 5:
		h.Pending = !h.Pending
	case 6:
		h.Lines = append(h.Lines, line(d.name(), d.register(id, h.Peer)))
	case 7:
		for k := range h.Lines {
			h.Lines[k].Reg = anyRegisters()[d.Intn(300)]
		}
	case 8:
		d.Shuffle(min(len(h.Lines), 2), func(a, b int) { h.Lines[a], h.Lines[b] = h.Lines[b], h.Lines[a] })
	}
	return l, id
}
