package trade

import (
	"math"
	"math/big"
	"math/rand"
	"slices"
	"testing"

	"eddy/api"
	"eddy/reg"
)

const (
	most   = api.MaxFlow
	newest = api.MaxVer
)

func register(ver int64, writer int, flow int64) api.Reg {
	return api.Reg{Ver: ver, Writer: writer, Flow: flow}
}

// deal is what Ends, Balance and Gain are asked for.
type deal struct {
	me, peer   int
	r          api.Reg
	rest, told int64
}

// turned is the same deal at the other end.
func (d deal) turned() deal { return deal{d.peer, d.me, d.r, d.told, d.rest} }

// with is the same deal with another register.
func (d deal) with(r api.Reg) deal { return deal{d.me, d.peer, r, d.rest, d.told} }

// pair, move, row and gain are what the calls answer.
type pair struct {
	mine, theirs int64
	err          api.Errno
}

type move struct {
	r      api.Reg
	amount int64
	err    api.Errno
}

type row struct {
	r       api.Reg
	amounts []int64
	err     api.Errno
}

type gain struct {
	less api.Wide
	err  api.Errno
}

func (p row) same(q row) bool {
	return p.r == q.r && slices.Equal(p.amounts, q.amounts) && p.err == q.err
}

func (d deal) ends() pair {
	a, b, err := Ends(d.me, d.peer, d.r, d.rest, d.told)
	return pair{a, b, err}
}

func (d deal) balance() move {
	r, amount, err := Balance(d.me, d.peer, d.r, d.rest, d.told)
	return move{r, amount, err}
}

func (d deal) play(n int) row {
	r, amounts, err := Play(d.me, d.peer, d.r, d.rest, d.told, n)
	return row{r, amounts, err}
}

func (d deal) gain() gain {
	less, err := Gain(d.me, d.peer, d.r, d.rest, d.told)
	return gain{less, err}
}

// among says which numbers lie between two.
func among(x, least, greatest int64) bool { return !(x < least) && !(x > greatest) }

// sayFit says by the document's words whether the register is fit for unlike numbers of nodes.
func (d deal) sayFit() bool {
	switch {
	case !among(int64(d.me), 0, 15), !among(int64(d.peer), 0, 15), d.me == d.peer:
		return false
	case d.r.Ver == 0:
		return d.r.Writer == 0 && d.r.Flow == 0
	case d.r.Writer != d.me && d.r.Writer != d.peer:
		return false
	}
	return among(d.r.Ver, 1, 1099511627776) && among(d.r.Flow, -2147483647, 2147483647)
}

// fits says which numbers are in the range of flows.
func fits(x *big.Int) bool { return x.CmpAbs(big.NewInt(2147483647)) <= 0 }

// sayTrue says the estimates, in numbers without an end, and whether all that must fit does so.
func (d deal) sayTrue() (mine, theirs *big.Int, ok bool) {
	rest, told, flow := big.NewInt(d.rest), big.NewInt(d.told), big.NewInt(d.r.Flow)
	mine, theirs = new(big.Int).Sub(rest, flow), new(big.Int).Add(told, flow)
	if d.me > d.peer {
		mine, theirs = new(big.Int).Add(rest, flow), new(big.Int).Sub(told, flow)
	}
	return mine, theirs, fits(rest) && fits(told) && fits(mine) && fits(theirs)
}

func (d deal) sayEnds() pair {
	if !d.sayFit() {
		return pair{err: 31}
	}
	mine, theirs, ok := d.sayTrue()
	if !ok {
		return pair{err: 10}
	}
	return pair{mine.Int64(), theirs.Int64(), 0}
}

// sayBalance says what Balance answers: half the difference, cut off towards zero, goes from the peer to me.
func (d deal) sayBalance() move {
	if e := d.sayEnds().err; e != 0 {
		return move{err: e}
	}
	mine, theirs, _ := d.sayTrue()
	amount := new(big.Int).Sub(theirs, mine)
	amount.Quo(amount, big.NewInt(2))
	if amount.Sign() == 0 {
		return move{d.r, 0, 0}
	}
	flow := big.NewInt(d.r.Flow)
	if d.peer < d.me {
		flow.Add(flow, amount)
	} else {
		flow.Sub(flow, amount)
	}
	if d.r.Ver >= 1099511627776 || !fits(flow) || !fits(amount) {
		return move{err: 10}
	}
	return move{register(d.r.Ver+1, d.me, flow.Int64()), amount.Int64(), 0}
}

// sayPlay says what Play answers, where me is the one that asks first.
func (d deal) sayPlay(n int) row {
	if e := d.sayEnds().err; e != 0 {
		return row{err: e}
	}
	p := row{r: d.r}
	for i := 1; i <= 100 && i <= n; i++ {
		at := d
		if i%2 == 1 {
			at = d.turned()
		}
		m := at.with(p.r).sayBalance()
		if m.err != 0 {
			return row{err: m.err}
		}
		p.r, p.amounts = m.r, append(p.amounts, m.amount)
	}
	return p
}

// sumOfSquares says the sum of the squares of the estimates.
func (d deal) sumOfSquares() *big.Int {
	mine, theirs, _ := d.sayTrue()
	return new(big.Int).Add(mine.Mul(mine, mine), theirs.Mul(theirs, theirs))
}

func (d deal) sayGain() gain {
	m := d.sayBalance()
	if m.err != 0 {
		return gain{err: m.err}
	}
	return gain{wide(new(big.Int).Sub(d.sumOfSquares(), d.with(m.r).sumOfSquares())), 0}
}

// wide is a number from 0 on as one of 128 bits.
func wide(x *big.Int) api.Wide {
	return api.Wide{Hi: new(big.Int).Rsh(x, 64).Uint64(), Lo: x.Uint64()}
}

// right holds all calls to what the words say.
func right(t *testing.T, d deal) {
	t.Helper()
	if got, want := d.ends(), d.sayEnds(); got != want {
		t.Fatalf("Ends of %+v: %v, want %v", d, got, want)
	}
	if got, want := d.balance(), d.sayBalance(); got != want {
		t.Fatalf("Balance of %+v: %v, want %v", d, got, want)
	}
	if got, want := d.gain(), d.sayGain(); got != want {
		t.Fatalf("Gain of %+v: %v, want %v", d, got, want)
	}
	for _, n := range []int{0, 1, 2, 3} {
		if got, want := d.play(n), d.sayPlay(n); !got.same(want) {
			t.Fatalf("Play of %+v, %d times: %v, want %v", d, n, got, want)
		}
	}
}

// anyNodes are numbers of nodes, numbers beside them and far away.
func anyNodes() []int {
	return []int{math.MinInt, -1 << 32, -16, -2, -1, 0, 1, 2, 5, 14, 15, 16, 17, 1 << 16, 1 << 32, 1<<32 + 5, math.MaxInt}
}

// anyNumbers are numbers at and around the ends of the range and of all numbers, and some between.
func anyNumbers() []int64 {
	return []int64{
		math.MinInt64, math.MinInt64 + 1, -1 << 32, -most - 2, -most - 1, -most, 1 - most, 2 - most, -1 << 30, -7, -2, -1,
		0, 1, 2, 3, 8, 1 << 30, most - 2, most - 1, most, most + 1, most + 2, 1 << 32, math.MaxInt64 - 1, math.MaxInt64,
	}
}

func anyVersions() []int64 {
	return []int64{math.MinInt64, -newest, -1, 0, 1, 2, 1 << 32, newest - 1, newest, newest + 1, math.MaxInt64}
}

// edges are pairs of nodes, either way round, the least and the greatest number among them.
func edges() []api.Link {
	return []api.Link{{A: 2, B: 5}, {A: 5, B: 2}, {A: 0, B: 15}, {A: 15, B: 0}, {A: 0, B: 1}, {A: 15, B: 14}}
}

// dice draws by a fixed seed.
type dice struct{ *rand.Rand }

func newDice(seed int64) dice { return dice{rand.New(rand.NewSource(seed))} }

// number is one in the range of flows, often at its edge, at half of it or about nought.
func (d dice) number() int64 {
	switch d.Intn(7) {
	case 0:
		return most - d.Int63n(4)
	case 1:
		return d.Int63n(4) - most
	case 2:
		return most/2 + d.Int63n(5) - 2
	case 3:
		return -most/2 - d.Int63n(5) + 2
	case 4:
		return d.Int63n(9) - 4
	case 5:
		return d.Int63n(2001) - 1000
	}
	return d.Int63n(2*most+1) - most
}

// version is one that a register may have, often the last or the one ahead of it.
func (d dice) version() int64 {
	switch d.Intn(4) {
	case 0:
		return newest - d.Int63n(2)
	case 1:
		return 1 + d.Int63n(2)
	}
	return 1 + d.Int63n(newest)
}

// deal is one of a fit register and of rests in their range; whether its estimates fit is left to chance.
func (d dice) deal() deal {
	p := d.Perm(api.MaxNodes)
	x := deal{me: p[0], peer: p[1], rest: d.number(), told: d.number()}
	if d.Intn(8) > 0 {
		x.r = register(d.version(), p[d.Intn(2)], d.number())
	}
	if d.Intn(2) == 0 { // where the flow is near half of what the rests differ by, the edge is nearly even
		x.told = min(most, max(-most, x.rest+d.Int63n(7)-3-2*reg.Out(x.r, x.me, x.peer)))
	}
	return x
}

// fitting hands out so many deals that Ends finds nothing wrong with.
func fitting(seed int64, n int) func(yield func(deal) bool) {
	return func(yield func(deal) bool) {
		for d := newDice(seed); n > 0; {
			x := d.deal()
			if x.sayEnds().err != 0 {
				continue
			}
			if !yield(x) {
				return
			}
			n--
		}
	}
}

// What is drawn has amounts of all kinds and errors of all kinds, or the tests would say little.
func TestWhatIsDrawnIsOfAllKinds(t *testing.T) {
	counts, d := map[string]int{}, newDice(12)
	for range 20000 {
		x := d.deal()
		if !x.sayFit() {
			t.Fatalf("%+v", x)
		}
		e, m := x.sayEnds(), x.sayBalance()
		switch {
		case e.err != 0:
			counts["an estimate out of its range"]++
		case m.err != 0:
			counts["no version left"]++
		case m.amount > 0:
			counts["to me"]++
		case m.amount < 0:
			counts["to the peer"]++
		case e.mine == e.theirs:
			counts["even"]++
		default:
			counts["by 1"]++
		}
	}
	for _, kind := range []string{"an estimate out of its range", "no version left", "to me", "to the peer", "even", "by 1"} {
		if counts[kind] < 100 {
			t.Errorf("%s: %d times", kind, counts[kind])
		}
	}
}
