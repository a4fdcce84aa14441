package plan

import (
	"fmt"
	"math"
	"slices"
	"strings"
	"testing"

	"eddy/api"
)

// pairs reads "0 1, 2 3".
func pairs(text string) []api.Link {
	var l []api.Link
	for _, word := range strings.FieldsFunc(text, func(r rune) bool { return r == ',' }) {
		var p api.Link
		if _, err := fmt.Sscan(word, &p.A, &p.B); err != nil {
			panic(err)
		}
		l = append(l, p)
	}
	return l
}

// each k that is asked of n nodes.
func each(n int) []int {
	l := []int{-1, 0, 1, 2, 3, 4, 5, 6, 7, 8, n - 1, n, n + 1, 1000, 1 << 32, 1 << 62, math.MaxInt, math.MaxInt - 1, math.MaxInt - 15, math.MinInt, math.MinInt + 1, -2, -1 << 32}
	slices.Sort(l)
	return slices.Compact(l)
}

func TestP23_1Random(t *testing.T) {
	for _, c := range []struct {
		seed uint64
		k    int
		want uint64
	}{
		{0, 1, 167951807}, {0, 2, 218396424}, {0, 3, 1299921937}, {0, 99999, 35278856}, {0, 100000, 561045386},
		{0, 0, 0}, {0, -1, 0}, {0, 100001, 0}, {0, 100002, 0}, {0, math.MaxInt, 0}, {0, math.MinInt, 0}, {0, 1<<32 + 1, 0},
		{1, 1, 908834774}, {1, 2, 1093944153}, {1, 0, 0}, {1 << 33, 1, 1452817644}, {1 << 63, 1, 1241693631}, {12345678901234567890, 17, 1696521914},
		{math.MaxUint64, 1, 1574552488}, {math.MaxUint64, 2, 1490332343}, {math.MaxUint64, 100000, 207844464},
		{math.MaxUint64, 0, 0}, {math.MaxUint64, -1, 0}, {math.MaxUint64, 100001, 0},
	} {
		if got := Random(c.seed, c.k); got != c.want {
			t.Errorf("Random(%d, %d) is %d, not %d", c.seed, c.k, got, c.want)
		}
	}
}

// The k-th number is the one that is reckoned one after another.
func TestP23_1OneAfterAnother(t *testing.T) {
	d := newDice(1)
	for _, seed := range []uint64{0, 1, math.MaxUint64, 1 << 63, d.Uint64(), d.Uint64(), d.Uint64()} {
		l := taken(seed, 100000)
		for _, k := range []int{1, 2, 3, 4, 5, 10, 100, 1000, 4095, 65535, 65536, 99999, 100000, 1 + d.Intn(100000), 1 + d.Intn(100000)} {
			if got := Random(seed, k); got != l[k-1] {
				t.Errorf("Random(%d, %d) is %d, not %d", seed, k, got, l[k-1])
			}
		}
		for k, x := range l[:300] {
			if got := Random(seed, k+1); got != x || got >= 1<<31 {
				t.Errorf("Random(%d, %d) is %d, not %d", seed, k+1, got, x)
			}
		}
	}
}

func TestP23_2Links(t *testing.T) {
	for _, c := range []struct {
		shape, n, k int
		want        string
	}{
		{api.ShLine, 1, 0, ""}, {api.ShLine, 2, 0, "0 1"}, {api.ShLine, 3, -1, "0 1,1 2"}, {api.ShLine, 4, 2, "0 1,1 2,2 3"},
		{api.ShRing, 1, 0, ""}, {api.ShRing, 2, 0, "0 1"}, {api.ShRing, 3, 0, "0 1,0 2,1 2"}, {api.ShRing, 4, 0, "0 1,0 3,1 2,2 3"}, {api.ShRing, 5, 2, "0 1,0 4,1 2,2 3,3 4"},
		{api.ShStar, 1, 0, ""}, {api.ShStar, 2, 0, "0 1"}, {api.ShStar, 3, 0, "0 1,0 2"}, {api.ShStar, 7, 1, "0 1,0 2,0 3,0 4,0 5,0 6"},
		{api.ShFull, 1, 0, ""}, {api.ShFull, 2, 0, "0 1"}, {api.ShFull, 3, 0, "0 1,0 2,1 2"}, {api.ShFull, 4, -7, "0 1,0 2,0 3,1 2,1 3,2 3"},
		{api.ShFull, 7, 0, "0 1,0 2,0 3,0 4,0 5,0 6,1 2,1 3,1 4,1 5,1 6,2 3,2 4,2 5,2 6,3 4,3 5,3 6,4 5,4 6,5 6"},
		{api.ShGrid, 1, 1, ""}, {api.ShGrid, 4, 1, "0 1,1 2,2 3"}, {api.ShGrid, 5, 2, "0 1,0 2,1 3,2 3,2 4"}, {api.ShGrid, 4, 2, "0 1,0 2,1 3,2 3"},
		{api.ShGrid, 9, 3, "0 1,0 3,1 2,1 4,2 5,3 4,3 6,4 5,4 7,5 8,6 7,7 8"}, {api.ShGrid, 8, 3, "0 1,0 3,1 2,1 4,2 5,3 4,3 6,4 5,4 7,6 7"},
		{api.ShGrid, 4, 3, "0 1,0 3,1 2"}, {api.ShGrid, 4, 4, "0 1,1 2,2 3"}, {api.ShGrid, 4, 5, "0 1,1 2,2 3"}, {api.ShGrid, 4, math.MaxInt, "0 1,1 2,2 3"},
		{api.ShTree, 1, 1, ""}, {api.ShTree, 4, 1, "0 1,1 2,2 3"}, {api.ShTree, 6, 2, "0 1,0 2,1 3,1 4,2 5"}, {api.ShTree, 8, 3, "0 1,0 2,0 3,1 4,1 5,1 6,2 7"},
		{api.ShTree, 7, 6, "0 1,0 2,0 3,0 4,0 5,0 6"}, {api.ShTree, 7, 7, "0 1,0 2,0 3,0 4,0 5,0 6"}, {api.ShTree, 7, math.MaxInt, "0 1,0 2,0 3,0 4,0 5,0 6"},
		{api.ShTree, 12, 6, "0 1,0 2,0 3,0 4,0 5,0 6,1 7,1 8,1 9,1 10,1 11"},
		{api.ShTree, 16, 5, "0 1,0 2,0 3,0 4,0 5,1 6,1 7,1 8,1 9,1 10,2 11,2 12,2 13,2 14,2 15"},
		{api.ShRandom, 1, 0, ""}, {api.ShRandom, 2, 0, "0 1"}, {api.ShRandom, 3, 0, "0 1,0 2,1 2"}, {api.ShRandom, 5, 0, "0 1,0 2,0 3,0 4,1 2,1 3,2 3,2 4,3 4"},
		{api.ShRandom, 6, -1, "0 1,0 2,0 5,1 2,1 5,2 3,2 4,2 5,3 4,3 5,4 5"},
		{api.ShRandom, 8, 7, "0 1,0 4,0 5,1 2,1 3,2 3,2 5,2 6,3 4,3 5,3 6,4 5,4 7,5 6,6 7"},
		{api.ShRandom, 9, 12345, "0 1,0 5,0 6,0 7,1 2,1 4,1 6,1 7,2 3,2 5,2 6,3 4,3 5,3 7,4 5,4 7,4 8,5 6,6 7,6 8,7 8"},
		{api.ShRandom, 15, -1, "0 1,0 2,0 12,1 2,1 5,2 3,2 7,2 9,2 10,3 4,4 5,5 6,5 9,5 13,5 14,6 7,6 11,7 8,7 9,7 11,7 12,8 9,8 10,8 12,8 13,9 10,10 11,11 12,12 13,13 14"},
		{api.ShRandom, 15, math.MaxInt, "0 1,0 6,0 7,0 10,1 2,1 3,1 10,1 12,2 3,2 13,3 4,3 6,3 8,4 5,4 6,4 8,4 9,5 6,5 9,5 11,5 13,6 7,6 8,7 8,7 11,8 9,8 11,9 10,10 11,10 13,11 12,11 13,12 13,13 14"},
		{api.ShRandom, 15, math.MinInt, "0 1,0 2,0 5,0 6,0 8,0 10,1 2,1 9,1 11,1 12,1 14,2 3,2 12,3 4,3 5,3 9,3 10,3 12,4 5,5 6,5 10,6 7,6 13,6 14,7 8,7 9,7 12,8 9,8 11,9 10,10 11,11 12,11 13,11 14,12 13,13 14"},
		{api.ShRandom, 16, 0, "0 1,0 6,0 9,0 11,0 14,1 2,1 4,1 7,1 11,2 3,2 7,2 9,2 15,3 4,3 7,3 11,3 14,4 5,4 6,4 10,4 14,5 6,5 14,6 7,6 13,7 8,8 9,8 13,8 15,9 10,10 11,10 12,10 15,11 12,11 13,12 13,13 14,14 15"},
	} {
		if l, err := Links(c.shape, c.n, c.k); !slices.Equal(l, pairs(c.want)) || err != api.OK {
			t.Errorf("Links(%d, %d, %d) are %v, %v, not %s", c.shape, c.n, c.k, l, err, c.want)
		}
	}
}

// Which error is told where two would hold: what is no shape first, then numbers, then a node in too many pairs.
func TestP23_2Errors(t *testing.T) {
	for _, c := range []struct {
		shape, n, k int
		want        api.Errno
	}{
		{0, 4, 1, api.ErrKind}, {8, 4, 1, api.ErrKind}, {-1, 4, 1, api.ErrKind}, {9, 4, 1, api.ErrKind}, {math.MinInt, 4, 1, api.ErrKind}, {math.MaxInt, 4, 1, api.ErrKind}, {1 << 32, 4, 1, api.ErrKind}, {1<<32 + 1, 4, 1, api.ErrKind},
		{0, 0, 0, api.ErrKind}, {8, 17, 0, api.ErrKind}, {8, -1, -1, api.ErrKind}, {0, 17, 1, api.ErrKind},
		{api.ShLine, 0, 1, api.ErrNumber}, {api.ShLine, 17, 1, api.ErrNumber}, {api.ShLine, -1, 1, api.ErrNumber}, {api.ShRing, math.MaxInt, 1, api.ErrNumber}, {api.ShRing, math.MinInt, 1, api.ErrNumber},
		{api.ShStar, 17, 1, api.ErrNumber}, {api.ShFull, 17, 1, api.ErrNumber}, {api.ShFull, 0, 1, api.ErrNumber}, {api.ShTree, 17, 16, api.ErrNumber}, {api.ShRandom, 0, 0, api.ErrNumber}, {api.ShRandom, 17, 0, api.ErrNumber}, {api.ShRandom, -1, 0, api.ErrNumber},
		{api.ShGrid, 4, 0, api.ErrNumber}, {api.ShGrid, 4, -1, api.ErrNumber}, {api.ShGrid, 4, math.MinInt, api.ErrNumber}, {api.ShGrid, 0, 0, api.ErrNumber}, {api.ShGrid, 0, 1, api.ErrNumber}, {api.ShGrid, 17, 1, api.ErrNumber},
		{api.ShTree, 4, 0, api.ErrNumber}, {api.ShTree, 4, -1, api.ErrNumber}, {api.ShTree, 16, 0, api.ErrNumber}, {api.ShTree, 1, 0, api.ErrNumber}, {api.ShGrid, 1, 0, api.ErrNumber},
		{api.ShStar, 8, 0, api.ErrDegree}, {api.ShStar, 16, 0, api.ErrDegree}, {api.ShFull, 8, 0, api.ErrDegree}, {api.ShFull, 16, 0, api.ErrDegree},
		{api.ShTree, 8, 7, api.ErrDegree}, {api.ShTree, 16, 16, api.ErrDegree}, {api.ShTree, 8, math.MaxInt, api.ErrDegree}, {api.ShTree, 13, 6, api.ErrDegree}, {api.ShTree, 16, 6, api.ErrDegree},
	} {
		if l, err := Links(c.shape, c.n, c.k); len(l) != 0 || err != c.want {
			t.Errorf("Links(%d, %d, %d) are %v, %v, not %v", c.shape, c.n, c.k, l, err, c.want)
		}
	}
}

// All shapes, of all that may be asked.
func TestP23_2AllShapes(t *testing.T) {
	sorts := map[string]int{}
	for shape := -1; shape <= api.NumSh+1; shape++ {
		for n := -1; n <= 18; n++ {
			for _, k := range each(n) {
				l, err := Links(shape, n, k)
				want, wrong := links(shape, n, k)
				what := fmt.Sprintf("Links(%d, %d, %d)", shape, n, k)
				same(t, what, err, wrong)
				same(t, what, l, want)
				sorts[fmt.Sprint(shape, " ", err)]++
			}
		}
	}
	for _, shape := range kinds() {
		enough(t, sorts, 30, fmt.Sprint(shape, " ", api.OK), fmt.Sprint(shape, " ", api.ErrNumber))
	}
	enough(t, sorts, 30, fmt.Sprint(api.ShStar, " ", api.ErrDegree), fmt.Sprint(api.ShFull, " ", api.ErrDegree), fmt.Sprint(api.ShTree, " ", api.ErrDegree))
}

// k plays no part where it counts nothing.
func TestP23_2KPlaysNoPart(t *testing.T) {
	for _, shape := range []int{api.ShLine, api.ShRing, api.ShStar, api.ShFull} {
		for n := range 18 {
			want, wrong := Links(shape, n, 1)
			for _, k := range each(n) {
				if l, err := Links(shape, n, k); !slices.Equal(l, want) || err != wrong {
					t.Errorf("Links(%d, %d, %d) are %v, %v, not %v, %v", shape, n, k, l, err, want, wrong)
				}
			}
		}
	}
}

// Random networks of many seeds; some of them have pairs for which a node had no room.
func TestP23_2Random(t *testing.T) {
	d, sorts := newDice(2), map[string]int{}
	for i := range 3000 {
		n, k := 1+i%16, int(d.Uint64())
		if i < 800 {
			k = i/16 - 25
		}
		l, err := Links(api.ShRandom, n, k)
		want, _ := links(api.ShRandom, n, k)
		same(t, fmt.Sprintf("Links(ShRandom, %d, %d)", n, k), l, want)
		same(t, "its error", err, api.OK)
		if slices.ContainsFunc(Distances(n, l, 0), func(far int) bool { return far > 3 }) {
			sorts["wide"]++
		}
		for v := range n {
			if Degree(l, v) == api.MaxDegree {
				sorts["full"]++
			}
		}
	}
	enough(t, sorts, 50, "full", "wide")
}

// Links are fit, all nodes are joined, and so many pairs are there.
func TestP23_9Links(t *testing.T) {
	d, sorts := newDice(3), map[int]int{}
	for _, shape := range kinds() {
		for n := 1; n <= 16; n++ {
			for _, k := range append(each(n), int(d.Uint64()), d.Intn(99), d.Intn(16), 9, 10, 11, 12, 13, 14) {
				l, err := Links(shape, n, k)
				if err != api.OK {
					continue
				}
				sorts[shape]++
				what := fmt.Sprintf("Links(%d, %d, %d): %v", shape, n, k, l)
				if !Fit(n, l) || !fits(n, l) {
					t.Errorf("%s are not fit", what)
				}
				if count(Parts(n, l), 0) != n {
					t.Errorf("%s: not all are joined: %v", what, Parts(n, l))
				}
				if many, is := size(shape, n); is && len(l) != many {
					t.Errorf("%s are not %d", what, many)
				}
			}
		}
	}
	for _, shape := range kinds() {
		if sorts[shape] < 30 {
			t.Errorf("%d of shape %d", sorts[shape], shape)
		}
	}
}

// size is how many pairs a shape has, where the document says it.
func size(shape, n int) (int, bool) {
	switch shape {
	case api.ShLine, api.ShStar, api.ShTree:
		return n - 1, true
	case api.ShRing:
		return n, n >= 3
	case api.ShFull:
		return n * (n - 1) / 2, true
	}
	return 0, false
}
