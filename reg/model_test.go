package reg

import (
	"math"
	"math/big"
	"math/rand"

	"eddy/api"
)

const (
	most   = api.MaxFlow
	newest = api.MaxVer
)

func reg(ver int64, writer int, flow int64) api.Reg {
	return api.Reg{Ver: ver, Writer: writer, Flow: flow}
}

// versions, writers, flows and ends are numbers at and around the ends of their ranges, and some between.
func versions() []int64 {
	return []int64{math.MinInt64, -newest, -2, -1, 0, 1, 2, 77, 1 << 31, 1 << 32, newest - 1, newest, newest + 1, math.MaxInt64}
}

func ends() []int {
	return []int{math.MinInt, -16, -2, -1, 0, 1, 2, 5, 14, 15, 16, 17, 1 << 32, math.MaxInt}
}

func flows() []int64 {
	return []int64{math.MinInt64, math.MinInt64 + 1, -1 << 32, -most - 2, -most - 1, -most, -most + 1, -7, -1, 0, 1, 2, 7, most - 1, most, most + 1, most + 2, 1 << 32, math.MaxInt64 - 1, math.MaxInt64}
}

// registers are all that these numbers make.
func registers(vers []int64, writers []int, flows []int64) []api.Reg {
	var l []api.Reg
	for _, v := range vers {
		for _, w := range writers {
			for _, f := range flows {
				l = append(l, reg(v, w, f))
			}
		}
	}
	return l
}

// among says anew which numbers lie between two.
func among(x, least, greatest int64) bool { return !(x < least) && !(x > greatest) }

// sayFit says by the document's words which registers are fit: all that must hold is asked one after the other.
func sayFit(r api.Reg, a, b int) bool {
	switch {
	case !among(int64(a), 0, 15), !among(int64(b), 0, 15), a == b:
		return false
	case r.Ver == 0:
		return r.Writer == 0 && r.Flow == 0
	case r.Writer != a && r.Writer != b:
		return false
	}
	return among(r.Ver, 1, 1099511627776) && among(r.Flow, -2147483647, 2147483647)
}

// sayNewer says by the document's words which register is newer.
func sayNewer(a, b api.Reg) bool {
	switch {
	case a.Ver > b.Ver:
		return true
	case a.Ver < b.Ver:
		return false
	}
	return a.Writer < b.Writer
}

// sayOut says what an edge takes from me.
func sayOut(r api.Reg, me, peer int) int64 {
	switch {
	case !sayFit(r, me, peer):
		return 0
	case me < peer:
		return r.Flow
	}
	return 0 - r.Flow
}

// sayMove says what Move answers; it reckons in numbers without an end, so that nothing wraps round.
func sayMove(r api.Reg, from, to int, amount int64, writer int) (api.Reg, api.Errno) {
	if !sayFit(r, from, to) || writer != from && writer != to {
		return api.Reg{}, api.ErrNumber
	}
	limit, moved := big.NewInt(2147483647), big.NewInt(amount)
	if moved.CmpAbs(limit) > 0 {
		return api.Reg{}, api.ErrRange
	}
	if moved.Sign() == 0 {
		return r, api.OK
	}
	flow := big.NewInt(r.Flow)
	if from < to {
		flow.Add(flow, moved)
	} else {
		flow.Sub(flow, moved)
	}
	if r.Ver == 1099511627776 || flow.CmpAbs(limit) > 0 {
		return api.Reg{}, api.ErrRange
	}
	return api.Reg{Ver: r.Ver + 1, Writer: writer, Flow: flow.Int64()}, api.OK
}

// drawn hands out edges, each with a register that is fit for it, by a fixed seed.
func drawn(n int) func(yield func(e api.Link, r api.Reg) bool) {
	return func(yield func(e api.Link, r api.Reg) bool) {
		source := rand.New(rand.NewSource(9))
		for range n {
			p := source.Perm(api.MaxNodes)
			e := api.Link{A: p[0], B: p[1]}
			r := reg(source.Int63n(newest)+1, p[source.Intn(2)], source.Int63n(2*most+1)-most)
			if source.Intn(20) == 0 {
				r = api.Reg{}
			}
			if !yield(e, r) {
				return
			}
		}
	}
}

// fitting hands out edges either way round, each with the registers at the edges of what is fit for it.
func fitting(yield func(e api.Link, r api.Reg) bool) {
	for _, e := range []api.Link{{A: 0, B: 1}, {A: 1, B: 0}, {A: 0, B: 15}, {A: 15, B: 0}, {A: 14, B: 15}, {A: 15, B: 14}, {A: 2, B: 5}, {A: 5, B: 2}} {
		if !yield(e, api.Reg{}) {
			return
		}
		for _, r := range registers(versions(), []int{e.A, e.B}, flows()) {
			if sayFit(r, e.A, e.B) && !yield(e, r) {
				return
			}
		}
	}
}
