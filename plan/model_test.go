package plan

import (
	"math"
	"math/big"
	"reflect"
	"slices"
	"testing"

	"eddy/api"
)

// taken are the first numbers of a seed, by the document's words, in numbers without an end.
func taken(seed uint64, many int) []uint64 {
	factor, summand, modulus := new(big.Int).SetUint64(6364136223846793005), new(big.Int).SetUint64(1442695040888963407), new(big.Int).Lsh(big.NewInt(1), 64)
	x := new(big.Int).SetUint64(seed)
	var l []uint64
	for range many {
		x.Mul(x, factor).Add(x, summand).Mod(x, modulus)
		l = append(l, new(big.Int).Rsh(x, 33).Uint64())
	}
	return l
}

// ties are pairs without an order.
type ties map[[2]int]bool

// list are ties as pairs that rise.
func (s ties) list() []api.Link {
	var l []api.Link
	for a := range 40 {
		for b := range 40 {
			if s[[2]int{a, b}] {
				l = append(l, api.Link{A: a, B: b})
			}
		}
	}
	return l
}

// degrees are in how many pairs nodes are.
func (s ties) degrees() map[int]int {
	in := map[int]int{}
	for p := range s {
		in[p[0]]++
		in[p[1]]++
	}
	return in
}

// tied tells of two nodes, the lesser one first, whether a shape but ShRandom has their pair: asked of the two alone.
func tied(shape, n, k, a, b int) bool {
	switch shape {
	case api.ShLine:
		return b-a == 1
	case api.ShRing:
		return b-a == 1 || n > 2 && b-a == n-1
	case api.ShStar:
		return a == 0
	case api.ShFull:
		return true
	case api.ShGrid:
		k = min(k, 100) // 100 columns or more are one row, of so few
		return a/k == b/k && a%k+1 == b%k || a%k == b%k && a/k+1 == b/k
	case api.ShTree:
		for child := 1; child <= min(k, 100); child++ { // the children of a are those behind the children of all before it
			if a*min(k, 100)+child == b {
				return true
			}
		}
	}
	return false
}

// wanted are the pairs of a shape, of a right one, right nodes and a right k.
func wanted(shape, n, k int) ties {
	s := ties{}
	for b := range n {
		for a := range b {
			if tied(shape, n, k, a, b) || shape == api.ShRandom && b-a == 1 {
				s[[2]int{a, b}] = true
			}
		}
	}
	if shape != api.ShRandom {
		return s
	}
	numbers := taken(uint64(int64(k)), 4*n)
	for len(numbers) > 0 {
		a, b := int(numbers[0]%uint64(n)), int(numbers[1]%uint64(n))
		numbers = numbers[2:]
		p := [2]int{min(a, b), max(a, b)}
		if in := s.degrees(); a != b && in[a] < api.MaxDegree && in[b] < api.MaxDegree {
			s[p] = true
		}
	}
	return s
}

// links is what Links answers, by the document's words.
func links(shape, n, k int) ([]api.Link, api.Errno) {
	switch {
	case !slices.Contains(kinds(), shape):
		return nil, api.ErrKind
	case n < 1 || n > 16, k < 1 && (shape == api.ShGrid || shape == api.ShTree):
		return nil, api.ErrNumber
	}
	s := wanted(shape, n, k)
	for _, many := range s.degrees() {
		if many > 6 {
			return nil, api.ErrDegree
		}
	}
	return s.list(), api.OK
}

// kinds are the shapes.
func kinds() []int {
	return []int{api.ShLine, api.ShRing, api.ShStar, api.ShFull, api.ShGrid, api.ShTree, api.ShRandom}
}

// fits is what Fit answers: the list is the one that its pairs make, when they are laid in order, none twice.
func fits(n int, l []api.Link) bool {
	s := ties{}
	for _, p := range l {
		if p.A < 0 || p.B < 0 || p.A > 15 || p.B > 15 || p.A >= n || p.B >= n || p.A >= p.B {
			return false
		}
		s[[2]int{p.A, p.B}] = true
	}
	for _, many := range s.degrees() {
		if many > 6 {
			return false
		}
	}
	return n > 0 && n <= 16 && slices.Equal(l, s.list())
}

// ways are the distances of every two nodes: each by what lies between, node by node.
func ways(n int, l []api.Link) [][]int {
	const none = 1000
	far := make([][]int, n)
	for a := range far {
		far[a] = slices.Repeat([]int{none}, n)
		far[a][a] = 0
	}
	for _, p := range l {
		far[p.A][p.B], far[p.B][p.A] = 1, 1
	}
	for by := range n {
		for a := range n {
			for b := range n {
				far[a][b] = min(far[a][b], far[a][by]+far[by][b])
			}
		}
	}
	for a := range n {
		for b := range n {
			if far[a][b] >= none {
				far[a][b] = -1
			}
		}
	}
	return far
}

// parts are what Parts answers: every node has its own number at first, and pairs make two numbers one, till none does.
func parts(n int, l []api.Link) []int {
	var least []int
	for v := range n {
		least = append(least, v)
	}
	for range n {
		for _, p := range l {
			one := min(least[p.A], least[p.B])
			least[p.A], least[p.B] = one, one
		}
	}
	return least
}

// steps are what Script answers.
func steps(n int, l []api.Link, name string, kind int, scale int64, inputs []int64) []api.Step {
	all := make([]api.Step, 2*len(l)+6)
	for i, p := range l {
		all[2*i].Kind, all[2*i].A, all[2*i].B = 1, p.A, p.B
		all[2*i+1].Kind, all[2*i+1].A, all[2*i+1].B = 1, p.B, p.A
	}
	for i := 2 * len(l); i < len(all); i++ {
		all[i].Kind = 13
	}
	all = append(all, api.Step{Kind: 3, A: 0, B: 0, Name: name, K: kind, N: scale}, api.Step{Kind: 12})
	for i, x := range inputs {
		if i == n {
			break
		}
		all = append(all, api.Step{Kind: 5, A: i, B: 0, Name: name, K: 0, N: x})
	}
	return all
}

// check holds all that may be asked of fit pairs against the model.
func check(t *testing.T, n int, l []api.Link) {
	t.Helper()
	if !Fit(n, l) {
		t.Fatalf("%v are not fit for %d", l, n)
	}
	far, widest := ways(n, l), 0
	for v := range n {
		if got := Distances(n, l, v); !slices.Equal(got, far[v]) {
			t.Fatalf("Distances(%d, %v, %d) are %v, not %v", n, l, v, got, far[v])
		}
		widest = max(widest, slices.Max(far[v]))
		if got, want := Degree(l, v), count(far[v], 1); got != want {
			t.Fatalf("Degree(%v, %d) is %d, not %d", l, v, got, want)
		}
	}
	if got := Width(n, l); got != widest {
		t.Fatalf("Width(%d, %v) is %d, not %d", n, l, got, widest)
	}
	if got, want := Parts(n, l), parts(n, l); !slices.Equal(got, want) {
		t.Fatalf("Parts(%d, %v) are %v, not %v", n, l, got, want)
	}
	strangers(t, n, l)
}

// strangers asks of numbers that are no node.
func strangers(t *testing.T, n int, l []api.Link) {
	t.Helper()
	for _, v := range []int{-1, n, n + 1, 16, 17, math.MinInt, math.MaxInt, 1 << 32, -16} {
		if v >= 0 && v < n {
			continue
		}
		if got := Degree(l, v); got != 0 {
			t.Fatalf("Degree(%v, %d) is %d", l, v, got)
		}
		if got := Distances(n, l, v); len(got) != n || count(got, -1) != n {
			t.Fatalf("Distances(%d, %v, %d) are %v", n, l, v, got)
		}
	}
}

// count is how often something stands in a list.
func count[T comparable](l []T, x T) int {
	many := 0
	for _, y := range l {
		if y == x {
			many++
		}
	}
	return many
}

// same fails where two answers are not the same; lists that are nil and those that are empty are.
func same(t *testing.T, what string, got, want any) {
	t.Helper()
	a, b := reflect.ValueOf(got), reflect.ValueOf(want)
	if a.Kind() == reflect.Slice && a.Len() == 0 && b.Len() == 0 && a.Type() == b.Type() {
		return
	}
	if !reflect.DeepEqual(got, want) {
		t.Fatalf("%s is %v, not %v", what, got, want)
	}
}

// enough says of which sorts there were too few.
func enough(t *testing.T, sorts map[string]int, least int, wanted ...string) {
	t.Helper()
	for _, s := range wanted {
		if sorts[s] < least {
			t.Errorf("%d of %q", sorts[s], s)
		}
	}
}
