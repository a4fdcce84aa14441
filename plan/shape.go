package plan

import (
	"iter"
	"slices"

	"eddy/api"
)

// sketch is how a shape is drawn: whether k counts something, so that it must be 1 at least, and the pairs, each of them once,
// in whatever order.
type sketch struct {
	counts bool
	pairs  func(n, k int) iter.Seq[api.Link]
}

// sketches has each shape at its place.
func sketches() [api.NumSh]sketch {
	return [api.NumSh]sketch{
		api.ShLine:   {pairs: line},
		api.ShRing:   {pairs: ring},
		api.ShStar:   {pairs: star},
		api.ShFull:   {pairs: full},
		api.ShGrid:   {pairs: grid, counts: true},
		api.ShTree:   {pairs: tree, counts: true},
		api.ShRandom: {pairs: random},
	}
}

// line hands out each node and the one behind it.
func line(n, _ int) iter.Seq[api.Link] {
	return func(yield func(api.Link) bool) {
		for i := range n - 1 {
			if !yield(api.Link{A: i, B: i + 1}) {
				return
			}
		}
	}
}

// ring is a line that is closed.
func ring(n, _ int) iter.Seq[api.Link] {
	return func(yield func(api.Link) bool) {
		for p := range line(n, 0) {
			if !yield(p) {
				return
			}
		}
		if n >= 3 { // of two nodes the line has that pair
			yield(api.Link{A: 0, B: n - 1})
		}
	}
}

// star is node 0 with every other one: a tree of one storey.
func star(n, _ int) iter.Seq[api.Link] { return tree(n, n) }

// full hands out every two nodes.
func full(n, _ int) iter.Seq[api.Link] {
	return func(yield func(api.Link) bool) {
		for b := range n {
			for a := range b {
				if !yield(api.Link{A: a, B: b}) {
					return
				}
			}
		}
	}
}

// grid hands out each node with the one to its right, and the one below it.
func grid(n, k int) iter.Seq[api.Link] {
	return func(yield func(api.Link) bool) {
		for i := range n {
			if i+1 < n && (i+1)%k != 0 && !yield(api.Link{A: i, B: i + 1}) {
				return
			}
			if k < n-i && !yield(api.Link{A: i, B: i + k}) { // i + k may be more than any number
				return
			}
		}
	}
}

// tree hands out each node but 0 with its parent.
func tree(n, k int) iter.Seq[api.Link] {
	return func(yield func(api.Link) bool) {
		for i := 1; i < n; i++ {
			if !yield(api.Link{A: (i - 1) / k, B: i}) {
				return
			}
		}
	}
}

// random is a line, and what the numbers of a seed put between its nodes.
func random(n, k int) iter.Seq[api.Link] {
	return func(yield func(api.Link) bool) {
		var l []api.Link
		for p := range line(n, 0) {
			l = append(l, p)
			if !yield(p) {
				return
			}
		}
		numbers := row{uint64(k)}
		for range 2 * n {
			a, b := numbers.below(n), numbers.below(n)
			p := api.Link{A: min(a, b), B: max(a, b)}
			if !room(l, p) {
				continue
			}
			l = append(l, p)
			if !yield(p) {
				return
			}
		}
	}
}

// room tells whether a pair may come to others.
func room(l []api.Link, p api.Link) bool {
	return p.A != p.B && !slices.Contains(l, p) && Degree(l, p.A) < api.MaxDegree && Degree(l, p.B) < api.MaxDegree
}

// row is the numbers of a seed, from one of them on.
type row struct{ at uint64 }

// next goes on to the next number.
func (r *row) next() uint64 {
	r.at = r.at*6364136223846793005 + 1442695040888963407
	return r.at >> 33
}

// below is the next number as one below n.
func (r *row) below(n int) int { return int(r.next() % uint64(n)) }
