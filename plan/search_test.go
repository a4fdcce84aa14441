package plan

import (
	"fmt"
	"math"
	"slices"
	"testing"

	"eddy/api"
)

func TestP23_3Fit(t *testing.T) {
	star := pairs("0 1,0 2,0 3,0 4,0 5,0 6")
	for _, c := range []struct {
		n    int
		l    []api.Link
		want bool
	}{
		{0, nil, false}, {1, nil, true}, {16, nil, true}, {17, nil, false}, {-1, nil, false}, {math.MinInt, nil, false}, {math.MaxInt, nil, false}, {1<<32 + 1, nil, false}, {1, []api.Link{}, true},
		{2, pairs("0 1"), true}, {1, pairs("0 1"), false}, {0, pairs("0 1"), false}, {17, pairs("0 1"), false}, {16, pairs("0 1"), true},
		{2, pairs("1 0"), false}, {2, pairs("0 0"), false}, {2, pairs("1 1"), false}, {2, pairs("0 2"), false}, {2, pairs("1 2"), false}, {2, pairs("-1 1"), false}, {2, pairs("-1 0"), false}, {2, pairs("-2 -1"), false},
		{16, pairs("0 15"), true}, {15, pairs("0 15"), false}, {16, pairs("14 15"), true}, {16, pairs("0 16"), false}, {17, pairs("0 16"), false}, {16, pairs("15 15"), false},
		{2, []api.Link{{A: math.MinInt, B: 1}}, false}, {2, []api.Link{{A: 0, B: math.MaxInt}}, false}, {2, []api.Link{{A: 0, B: 1<<32 + 1}}, false}, {2, []api.Link{{A: math.MinInt, B: math.MaxInt}}, false},
		{4, pairs("0 1,2 3"), true}, {4, pairs("2 3,0 1"), false}, {4, pairs("0 1,0 1"), false}, {4, pairs("0 2,0 1"), false}, {4, pairs("0 1,0 2"), true}, {4, pairs("0 3,1 2"), true}, {4, pairs("1 2,0 3"), false},
		{4, pairs("0 1,1 2,0 3"), false}, {4, pairs("0 1,0 3,1 2"), true}, {4, pairs("0 1,1 0"), false}, {4, pairs("0 1,1 2,2 1"), false}, {4, pairs("0 1,2 2,2 3"), false}, {4, pairs("0 1,1 2,1 2,2 3"), false},
		{7, star, true}, {8, star, true}, {6, star, false}, {8, append(pairs("0 1"), pairs("0 2,0 3,0 4,0 5,0 6,0 7")...), false},
		{16, pairs("0 7,1 7,2 7,3 7,4 7,5 7"), true}, {16, pairs("0 7,1 7,2 7,3 7,4 7,5 7,6 7"), false}, {16, pairs("0 7,1 7,2 7,3 7,4 7,5 7,7 8"), false}, {16, pairs("0 7,1 7,2 7,7 8,7 9,7 10"), true},
		{16, pairs("0 7,1 7,2 7,7 8,7 9,7 10,7 15"), false}, {16, pairs("0 15,1 15,2 15,3 15,4 15,5 15"), true}, {16, pairs("0 15,1 15,2 15,3 15,4 15,5 15,14 15"), false}, {16, append(star, pairs("0 15")...), false},
	} {
		if got := Fit(c.n, c.l); got != c.want || fits(c.n, c.l) != c.want {
			t.Errorf("Fit(%d, %v) is %v", c.n, c.l, got)
		}
	}
}

// All lists of up to three pairs of numbers about those of a few nodes.
func TestP23_3ShortLists(t *testing.T) {
	var all []api.Link
	for a := -1; a < 4; a++ {
		for b := -1; b < 4; b++ {
			all = append(all, api.Link{A: a, B: b})
		}
	}
	fit := 0
	for _, p := range all {
		for _, q := range all {
			for n := range 5 {
				for _, l := range [][]api.Link{{p}, {p, q}} {
					if Fit(n, l) != fits(n, l) {
						t.Fatalf("Fit(%d, %v) is %v", n, l, Fit(n, l))
					}
				}
			}
			for _, r := range all {
				l := []api.Link{p, q, r}
				if Fit(3, l) != fits(3, l) || Fit(4, l) != fits(4, l) {
					t.Fatalf("Fit(%v) is %v, %v", l, Fit(3, l), Fit(4, l))
				}
				if Fit(4, l) {
					fit++
				}
			}
		}
	}
	if fit != 20 { // three of the six pairs of four nodes
		t.Errorf("%d are fit", fit)
	}
}

func TestP23_3DrawnLists(t *testing.T) {
	d, sorts := newDice(4), map[string]int{}
	for range 6000 {
		n := d.nodes()
		l := d.drawn(n)
		if !Fit(n, l) {
			t.Fatalf("Fit(%d, %v) is false", n, l)
		}
		m := n
		if d.often(1, 3) {
			m += d.Intn(5) - 2
		}
		if d.often(2, 3) {
			l = d.odd(l)
		}
		if got := Fit(m, l); got != fits(m, l) {
			t.Fatalf("Fit(%d, %v) is %v", m, l, got)
		}
		sorts[fmt.Sprint(fits(m, l))]++
	}
	enough(t, sorts, 1000, "true", "false")
}

// All networks of up to five nodes, and what may be asked of them.
func TestP23_4AllSmallNetworks(t *testing.T) {
	for n := 1; n <= 5; n++ {
		every, _ := links(api.ShFull, n, 0)
		for bits := range 1 << len(every) {
			var l []api.Link
			for i, p := range every {
				if bits>>i&1 == 1 {
					l = append(l, p)
				}
			}
			check(t, n, l)
		}
	}
}

// P23.4 to P23.7 of drawn networks.
func TestP23_4DrawnNetworks(t *testing.T) {
	d, sorts := newDice(5), map[string]int{}
	for range 3000 {
		n := d.nodes()
		l := d.drawn(n)
		check(t, n, l)
		switch p := Parts(n, l); {
		case count(p, 0) == n:
			sorts["joined"]++
		case len(l) > 0:
			sorts["several parts"]++
		}
		for v := range n {
			sorts[fmt.Sprint("degree ", Degree(l, v))]++
		}
		sorts[fmt.Sprint("width ", Width(n, l))]++
	}
	enough(t, sorts, 100, "joined", "several parts", "degree 0", "degree 1", "degree 5", "degree 6", "width 0", "width 1", "width 4", "width 6")
	enough(t, sorts, 5, "width 15", "width 8", "width 9")
}

func TestP23_4Degree(t *testing.T) {
	l := pairs("0 1,0 3,1 2,1 3,1 4,5 6")
	for v, want := range map[int]int{0: 2, 1: 4, 2: 1, 3: 2, 4: 1, 5: 1, 6: 1, 7: 0, 15: 0, -1: 0, 16: 0, math.MaxInt: 0, math.MinInt: 0, 1 << 32: 0} {
		if got := Degree(l, v); got != want {
			t.Errorf("Degree of %d is %d", v, got)
		}
	}
	full, _ := Links(api.ShFull, 7, 0)
	for v := range 7 {
		if got := Degree(full, v); got != 6 {
			t.Errorf("Degree of %d is %d", v, got)
		}
	}
	if Degree(nil, 0) != 0 || Degree([]api.Link{}, -1) != 0 {
		t.Error("of none")
	}
}

// counted are the numbers from one to another one, going up or down.
func counted(from, to int) []int {
	l := []int{from}
	for from != to {
		if from < to {
			from++
		} else {
			from--
		}
		l = append(l, from)
	}
	return l
}

// lonely is what Distances answer of a lone node.
func lonely(n, v int) []int {
	l := slices.Repeat([]int{-1}, n)
	l[v] = 0
	return l
}

func TestP23_5Distances(t *testing.T) {
	long := append(counted(0, 8), counted(7, 1)...)
	for _, c := range []struct {
		n    int
		l    string
		from int
		want []int
	}{
		{1, "", 0, []int{0}}, {1, "", 1, []int{-1}}, {1, "", -1, []int{-1}}, {1, "", math.MaxInt, []int{-1}}, {2, "", 0, []int{0, -1}}, {2, "", 1, []int{-1, 0}}, {2, "", 2, []int{-1, -1}},
		{2, "0 1", 0, []int{0, 1}}, {2, "0 1", 1, []int{1, 0}}, {2, "0 1", 2, []int{-1, -1}}, {2, "0 1", math.MinInt, []int{-1, -1}},
		{4, "0 1,0 3,1 2,2 3", 0, []int{0, 1, 2, 1}}, {4, "0 1,0 3,1 2,2 3", 3, []int{1, 2, 1, 0}}, {4, "0 2,1 3", 0, []int{0, -1, 1, -1}}, {4, "0 2,1 3", 3, []int{-1, 1, -1, 0}},
		{5, "0 1,0 4,1 2,2 3,3 4", 0, []int{0, 1, 2, 2, 1}}, {6, "0 5,1 4,1 5,2 3,2 4", 0, []int{0, 2, 4, 5, 3, 1}}, {6, "0 5,1 4,1 5,2 3,2 4", 3, []int{5, 3, 1, 0, 2, 4}},
		{16, "", 15, lonely(16, 15)}, {16, "", 0, lonely(16, 0)},
		{16, text(api.ShLine, 16), 0, counted(0, 15)}, {16, text(api.ShLine, 16), 15, counted(15, 0)}, {16, text(api.ShLine, 16), 5, append(counted(5, 0), counted(1, 10)...)},
		{16, text(api.ShRing, 16), 0, long}, {16, text(api.ShRing, 16), 15, append(long[1:], 0)}, {15, text(api.ShRing, 15), 0, append(counted(0, 7), counted(7, 1)...)},
	} {
		if got := Distances(c.n, pairs(c.l), c.from); !slices.Equal(got, c.want) {
			t.Errorf("Distances(%d, %s, %d) are %v, not %v", c.n, c.l, c.from, got, c.want)
		}
	}
}

// text is the pairs of a shape as they are read.
func text(shape, n int) string {
	l, _ := links(shape, n, 0)
	s := ""
	for _, p := range l {
		s += fmt.Sprint(p.A, " ", p.B, ",")
	}
	return s
}

func TestP23_6Parts(t *testing.T) {
	for _, c := range []struct {
		n    int
		l    string
		want []int
	}{
		{1, "", []int{0}}, {3, "", []int{0, 1, 2}}, {16, "", counted(0, 15)}, {4, "0 2,1 3", []int{0, 1, 0, 1}}, {4, "2 3", []int{0, 1, 2, 2}}, {5, "1 4,2 3,3 4", []int{0, 1, 1, 1, 1}}, {5, "0 4,2 3", []int{0, 1, 2, 2, 0}},
		{7, "1 6,2 5,3 6,4 5", []int{0, 1, 2, 1, 2, 2, 1}}, {16, text(api.ShLine, 16), make([]int, 16)}, {16, text(api.ShRing, 16), make([]int, 16)}, {16, "14 15", append(counted(0, 14), 14)}, {16, "0 15", append(counted(0, 14), 0)},
	} {
		if got := Parts(c.n, pairs(c.l)); !slices.Equal(got, c.want) {
			t.Errorf("Parts(%d, %s) are %v, not %v", c.n, c.l, got, c.want)
		}
	}
}

func TestP23_7Width(t *testing.T) {
	for _, c := range []struct {
		n    int
		l    string
		want int
	}{
		{1, "", 0}, {2, "", 0}, {16, "", 0}, {2, "0 1", 1}, {3, "0 1", 1}, {4, "0 1,0 3,1 2,2 3", 2}, {4, "0 2,1 3", 1}, {6, "0 1,2 3,3 4,4 5", 3}, {6, "0 1,1 2,2 3,4 5", 3},
		{16, text(api.ShLine, 16), 15}, {16, text(api.ShRing, 16), 8}, {15, text(api.ShRing, 15), 7}, {7, text(api.ShStar, 7), 2}, {7, text(api.ShFull, 7), 1}, {16, "14 15", 1}, {5, "0 2,1 2,2 3,2 4", 2}, {6, "0 5,1 4,1 5,2 3,2 4", 5},
	} {
		if got := Width(c.n, pairs(c.l)); got != c.want {
			t.Errorf("Width(%d, %s) is %d, not %d", c.n, c.l, got, c.want)
		}
	}
}

// Distances are the same both ways, and of neighbours differ by 1 at most; Parts and Distances agree on who is joined.
func TestP23_11Distances(t *testing.T) {
	d := newDice(11)
	for range 2500 {
		n := d.nodes()
		l := d.drawn(n)
		p, widest := Parts(n, l), 0
		for a := range n {
			far := Distances(n, l, a)
			for b := range n {
				if far[b] != Distances(n, l, b)[a] {
					t.Fatalf("%v: from %d to %d %d, and not back", l, a, b, far[b])
				}
				if (far[b] >= 0) != (p[a] == p[b]) || (far[b] == 0) != (a == b) || far[b] < -1 || far[b] >= n {
					t.Fatalf("%v: from %d to %d %d, parts %v", l, a, b, far[b], p)
				}
				widest = max(widest, far[b])
			}
			for _, e := range l {
				if x := far[e.A] - far[e.B]; x < -1 || x > 1 {
					t.Fatalf("%v: from %d %v", l, a, far)
				}
			}
			if p[a] > a || p[p[a]] != p[a] || Degree(l, a) != count(far, 1) {
				t.Fatalf("%v: parts %v, distances from %d %v", l, p, a, far)
			}
		}
		if Width(n, l) != widest {
			t.Fatalf("%v: width %d, not %d", l, Width(n, l), widest)
		}
	}
}
