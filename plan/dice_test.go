package plan

import (
	"math"
	"math/rand"

	"eddy/api"
)

// dice draws networks, by a fixed seed.
type dice struct{ *rand.Rand }

func newDice(seed int64) dice { return dice{rand.New(rand.NewSource(seed))} }

func pick[T any](d dice, l []T) T { return l[d.Intn(len(l))] }

// often is true n times of m.
func (d dice) often(n, m int) bool { return d.Intn(m) < n }

// nodes is how many nodes a network has.
func (d dice) nodes() int { return pick(d, []int{1, 2, 3, 4, 5, 6, 7, 8, 11, 15, 16, 16}) }

// drawn are fit pairs of n nodes: of none to as many as may be, or those of a shape.
func (d dice) drawn(n int) []api.Link {
	if d.often(1, 3) {
		if l, err := links(pick(d, kinds()), n, 1+d.Intn(5)); err == api.OK {
			return l
		}
	}
	s, in := ties{}, make([]int, n)
	for range d.Intn(4*n + 1) {
		a, b := d.Intn(n), d.Intn(n)
		if p := [2]int{a, b}; a < b && !s[p] && in[a] < api.MaxDegree && in[b] < api.MaxDegree {
			s[p] = true
			in[a]++
			in[b]++
		}
	}
	return s.list()
}

// odd is a list of pairs in which something is another way, so that it is seldom fit.
func (d dice) odd(l []api.Link) []api.Link {
	l = append([]api.Link(nil), l...)
	numbers := []int{-1, 0, 1, 2, 15, 16, 17, math.MinInt, math.MaxInt, 1 << 32}
	if len(l) == 0 {
		return append(l, api.Link{A: pick(d, numbers), B: pick(d, numbers)})
	}
	i, j := d.Intn(len(l)), d.Intn(len(l))
	switch d.Intn(7) {
	case 0:
		l[i].A = pick(d, numbers)
	case 1:
		l[i].B = pick(d, numbers)
	case 2:
		l[i].A, l[i].B = l[i].B, l[i].A
	case 3:
		l[i], l[j] = l[j], l[i]
	case 4:
		l[i] = l[j]
	case 5:
		l = append(l, l[i])
	default:
		l[i].B = l[i].A
	}
	return l
}

// inputs are some numbers.
func (d dice) inputs(many int) []int64 {
	var l []int64
	for range many {
		l = append(l, pick(d, []int64{0, 1, -1, d.Int63n(2001) - 1000, math.MaxInt64, math.MinInt64}))
	}
	return l
}
