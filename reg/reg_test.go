package reg

import (
	"math"
	"slices"
	"testing"

	"eddy/api"
)

func TestExample1(t *testing.T) {
	if !Newer(reg(2, 5, 0), reg(1, 0, 9)) || !Newer(reg(2, 0, 1), reg(2, 5, 9)) {
		t.Error("what is newer is told as older")
	}
	if Newer(reg(2, 5, 1), reg(2, 5, 9)) || Newer(reg(2, 5, 9), reg(2, 5, 1)) {
		t.Error("of one stamp one is newer")
	}
	if m := Merge(reg(1, 3, 7), reg(1, 2, 9)); m != reg(1, 2, 9) {
		t.Errorf("Merge: %v", m)
	}
}

func TestExample2(t *testing.T) {
	if a, b := Out(reg(1, 2, 7), 2, 5), Out(reg(1, 2, 7), 5, 2); a != 7 || b != -7 {
		t.Errorf("Out: %d, %d", a, b)
	}
	if Fit(reg(1, 4, 7), 2, 5) || Fit(reg(0, 2, 0), 2, 5) || !Fit(api.Reg{}, 2, 5) || Fit(api.Reg{}, 2, 2) {
		t.Error("Fit")
	}
}

type moveCase struct {
	name     string
	r        api.Reg
	from, to int
	amount   int64
	writer   int
	want     api.Reg
	err      api.Errno
}

func movesAre(t *testing.T, cases []moveCase) {
	t.Helper()
	for _, c := range cases {
		if r, err := Move(c.r, c.from, c.to, c.amount, c.writer); r != c.want || err != c.err {
			t.Errorf("%s: Move(%v, %d, %d, %d, %d): %v, %v, want %v, %v", c.name, c.r, c.from, c.to, c.amount, c.writer, r, err, c.want, c.err)
		}
	}
}

func TestExample3(t *testing.T) {
	movesAre(t, []moveCase{
		{"from above", api.Reg{}, 5, 2, 3, 2, reg(1, 2, -3), api.OK},
		{"and back", reg(1, 2, -3), 2, 5, 3, 5, reg(2, 5, 0), api.OK},
		{"nothing", reg(1, 2, 7), 2, 5, 0, 5, reg(1, 2, 7), api.OK},
		{"too much", reg(1, 2, 2147483647), 2, 5, 1, 2, api.Reg{}, api.ErrRange},
		{"another's hand", api.Reg{}, 2, 5, 1, 3, api.Reg{}, api.ErrNumber},
	})
}

func TestP9_1FitAtTheEdges(t *testing.T) {
	for _, c := range []struct {
		name string
		r    api.Reg
		a, b int
		want bool
	}{
		{"an ordinary one", reg(1, 2, 7), 2, 5, true},
		{"written by the other end", reg(1, 5, 7), 2, 5, true},
		{"the ends turned round", reg(1, 5, 7), 5, 2, true},
		{"Ver below 0", reg(-1, 2, 7), 2, 5, false},
		{"Ver 0", reg(0, 2, 7), 2, 5, false},
		{"Ver 0 with a Writer alone", reg(0, 5, 0), 2, 5, false},
		{"Ver 0 with a Flow alone", reg(0, 0, 1), 0, 5, false},
		{"Ver 0 with a Flow below 0 alone", reg(0, 0, -1), 5, 0, false},
		{"Ver 1", reg(1, 2, 0), 2, 5, true},
		{"Ver below MaxVer", reg(newest-1, 2, 7), 2, 5, true},
		{"MaxVer", reg(newest, 2, 7), 2, 5, true},
		{"Ver beyond MaxVer", reg(newest+1, 2, 7), 2, 5, false},
		{"the greatest Ver", reg(math.MaxInt64, 2, 7), 2, 5, false},
		{"the least Ver", reg(math.MinInt64, 2, 7), 2, 5, false},
		{"Flow below its least", reg(1, 2, -most-1), 2, 5, false},
		{"the least Flow", reg(1, 2, -most), 2, 5, true},
		{"Flow 0", reg(1, 2, 0), 2, 5, true},
		{"the greatest Flow", reg(1, 2, most), 2, 5, true},
		{"Flow beyond its greatest", reg(1, 2, most+1), 2, 5, false},
		{"the least number as Flow", reg(1, 2, math.MinInt64), 2, 5, false},
		{"the greatest number as Flow", reg(1, 2, math.MaxInt64), 2, 5, false},
		{"a Writer between the ends", reg(1, 3, 7), 2, 5, false},
		{"a Writer below the ends", reg(1, 0, 7), 2, 5, false},
		{"a Writer above the ends", reg(1, 6, 7), 2, 5, false},
		{"a Writer that is no node", reg(1, -1, 7), 2, 5, false},
		{"node 0", reg(1, 0, 7), 0, 15, true},
		{"node 15", reg(1, 15, 7), 0, 15, true},
		{"the zero register, nodes 0 and 15", api.Reg{}, 0, 15, true},
	} {
		if got := Fit(c.r, c.a, c.b); got != c.want {
			t.Errorf("%s: Fit(%v, %d, %d): %v", c.name, c.r, c.a, c.b, got)
		}
	}
}

func TestP9_1FitOfNoEdge(t *testing.T) {
	for _, pair := range [][2]int{{2, 2}, {0, 0}, {15, 15}, {-1, 2}, {16, 2}, {-1, -1}, {16, 16}, {-1, 16}, {math.MinInt, 2}, {math.MaxInt, 2}, {math.MinInt, math.MaxInt}} {
		a, b := pair[0], pair[1]
		for _, r := range []api.Reg{{}, reg(1, a, 7), reg(1, b, 7), reg(1, 2, 7)} {
			if Fit(r, a, b) || Fit(r, b, a) {
				t.Errorf("Fit(%v) for %d and %d, which are no edge", r, a, b)
			}
		}
	}
}

func TestP9_1FitByTheWords(t *testing.T) {
	for _, r := range registers(versions(), ends(), flows()) {
		for _, a := range ends() {
			for _, b := range ends() {
				if got, want := Fit(r, a, b), sayFit(r, a, b); got != want {
					t.Fatalf("Fit(%v, %d, %d): %v, want %v", r, a, b, got, want)
				}
			}
		}
	}
}

// Each pair of nodes is an edge, whoever is named first, and no other pair is.
func TestP9_1FitOfAllPairs(t *testing.T) {
	for a := -3; a <= 19; a++ {
		for b := -3; b <= 19; b++ {
			want := a != b && min(a, b) >= 0 && max(a, b) <= 15
			if Fit(api.Reg{}, a, b) != want || Fit(reg(1, a, 1), a, b) != want || Fit(reg(1, b, 1), a, b) != want {
				t.Errorf("Fit for %d and %d: want %v", a, b, want)
			}
		}
	}
}

func TestP9_2Newer(t *testing.T) {
	for _, c := range []struct {
		name string
		a, b api.Reg
	}{
		{"a greater Ver", reg(2, 5, 0), reg(1, 5, 0)},
		{"a greater Ver, a greater Writer", reg(2, 15, 0), reg(1, 0, 0)},
		{"a greater Ver, a smaller Flow", reg(2, 5, -9), reg(1, 5, 9)},
		{"one Ver, a smaller Writer", reg(2, 4, 0), reg(2, 5, 0)},
		{"one Ver, a smaller Writer, a smaller Flow", reg(2, 4, -9), reg(2, 5, 9)},
		{"any against the zero one", reg(1, 15, 0), api.Reg{}},
		{"the last one", reg(newest, 15, 0), reg(newest-1, 0, 0)},
		{"unfit: Ver", reg(0, 5, 0), reg(-1, 0, 0)},
		{"unfit: Writer", reg(0, -1, 0), api.Reg{}},
		{"the ends of what numbers there are", reg(math.MaxInt64, math.MaxInt, 0), reg(math.MinInt64, math.MinInt, 0)},
		{"the ends of what Writers there are", reg(1, math.MinInt, 0), reg(1, math.MaxInt, 0)},
	} {
		if !Newer(c.a, c.b) || Newer(c.b, c.a) {
			t.Errorf("%s: Newer(%v, %v): %v; turned round: %v", c.name, c.a, c.b, Newer(c.a, c.b), Newer(c.b, c.a))
		}
	}
}

// loose are registers of all stamps, fit or not.
func loose() []api.Reg {
	return registers(versions(), ends(), []int64{math.MinInt64, -1, 0, 7})
}

func TestP9_2P9_3NewerAndMergeByTheWords(t *testing.T) {
	for _, a := range loose() {
		for _, b := range loose() {
			newer := sayNewer(b, a)
			if Newer(b, a) != newer {
				t.Fatalf("Newer(%v, %v): %v", b, a, !newer)
			}
			want := a
			if newer {
				want = b
			}
			if got := Merge(a, b); got != want {
				t.Fatalf("Merge(%v, %v): %v, want %v", a, b, got, want)
			}
		}
	}
}

func TestP9_2OfOneStampNeither(t *testing.T) {
	for _, v := range versions() {
		for _, w := range ends() {
			for _, f := range flows() {
				if a, b := reg(v, w, f), reg(v, w, 1); Newer(a, b) || Newer(b, a) || Newer(a, a) {
					t.Fatalf("%v and %v: one is newer", a, b)
				}
			}
		}
	}
}

func TestP9_3MergeOfOneStampIsTheFirst(t *testing.T) {
	a, b := reg(3, 2, 7), reg(3, 2, 9)
	if Merge(a, b) != a || Merge(b, a) != b {
		t.Errorf("Merge: %v, %v", Merge(a, b), Merge(b, a))
	}
}

func TestP9_4Most(t *testing.T) {
	old, mid, top := reg(1, 2, 7), reg(2, 5, -7), reg(2, 2, 0)
	for _, c := range []struct {
		name string
		l    []api.Reg
		want api.Reg
	}{
		{"nil", nil, api.Reg{}},
		{"none", []api.Reg{}, api.Reg{}},
		{"the zero one", []api.Reg{{}}, api.Reg{}},
		{"one", []api.Reg{mid}, mid},
		{"one, older than the zero one by its Ver", []api.Reg{reg(-1, 0, 7)}, reg(-1, 0, 7)},
		{"one, older than the zero one by its Writer", []api.Reg{reg(0, 3, 7)}, reg(0, 3, 7)},
		{"one, of the zero one's stamp", []api.Reg{reg(0, 0, 7)}, reg(0, 0, 7)},
		{"several, older than the zero one", []api.Reg{reg(-3, 1, 1), reg(-1, 3, 2), reg(-1, 2, 3), reg(-2, 0, 4)}, reg(-1, 2, 3)},
		{"the zero one among these", []api.Reg{reg(-3, 1, 1), {}, reg(-1, 2, 3)}, api.Reg{}},
		{"newest first", []api.Reg{top, mid, old}, top},
		{"newest last", []api.Reg{old, mid, top}, top},
		{"newest in the middle", []api.Reg{old, top, mid}, top},
		{"newest in the middle, falling ahead", []api.Reg{mid, old, top, {}, old}, top},
		{"one stamp: the first", []api.Reg{old, reg(2, 2, 1), top, reg(2, 2, 2)}, reg(2, 2, 1)},
		{"one twice", []api.Reg{mid, mid}, mid},
	} {
		if got := Most(c.l); got != c.want {
			t.Errorf("%s: Most(%v): %v, want %v", c.name, c.l, got, c.want)
		}
	}
}

func TestP9_4MostWhereverTheNewestStands(t *testing.T) {
	for n := 1; n <= 40; n++ {
		for at := range n {
			l := make([]api.Reg, n)
			for i := range l {
				l[i] = reg(int64(i*7%n)+1, i%16, int64(i))
			}
			l[at] = reg(100, 3, 9)
			if got := Most(l); got != l[at] {
				t.Fatalf("%d of %d: %v", at, n, got)
			}
		}
	}
}

// Lists of any registers, gone through as the document says it.
func TestP9_4MostByTheWords(t *testing.T) {
	all := registers([]int64{-1, 0, 1, 2}, []int{0, 1, 2}, []int64{0, 5})
	for _, a := range all {
		for _, b := range all {
			for _, c := range all {
				if got, want := Most([]api.Reg{a, b, c}), Merge(Merge(a, b), c); got != want {
					t.Fatalf("Most of %v, %v, %v: %v, want %v", a, b, c, got, want)
				}
			}
		}
	}
}

// The list stays, and so does its spare room, which plays no part.
func TestP9_4MostLeavesTheList(t *testing.T) {
	whole := []api.Reg{reg(1, 2, 7), reg(3, 5, 8), reg(2, 2, 9), reg(9, 2, 1), reg(8, 2, 2)}
	was := slices.Clone(whole)
	for n := range len(whole) {
		want := api.Reg{}
		for i, r := range whole[:n] {
			if i == 0 || sayNewer(r, want) {
				want = r
			}
		}
		if got := Most(whole[:n]); got != want || Most(whole[:n]) != want {
			t.Errorf("the first %d: %v, want %v", n, got, want)
		}
		if !slices.Equal(whole, was) {
			t.Fatalf("the list is changed: %v", whole)
		}
	}
}

func TestP9_5Agree(t *testing.T) {
	odd := reg(-1, 99, math.MinInt64)
	for _, a := range []api.Reg{{}, reg(1, 2, 7), reg(newest, 15, -most), odd} {
		if !Agree(a, a) || !Agree(a, reg(a.Ver, a.Writer, a.Flow)) {
			t.Errorf("%v with itself: no", a)
		}
		for _, b := range []api.Reg{reg(a.Ver+1, a.Writer, a.Flow), reg(a.Ver, a.Writer+1, a.Flow), reg(a.Ver, a.Writer, a.Flow+1), reg(a.Ver+1, a.Writer+1, a.Flow+1), reg(a.Ver^math.MinInt64, a.Writer, a.Flow)} {
			if Agree(a, b) || Agree(b, a) {
				t.Errorf("%v with %v: yes", a, b)
			}
		}
	}
	if Agree(reg(1, 2, 7), reg(1, 2, -7)) || Agree(reg(2, 1, 7), reg(1, 2, 7)) {
		t.Error("unlike ones agree")
	}
}
