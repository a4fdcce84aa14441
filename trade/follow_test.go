package trade

import (
	"testing"

	"eddy/api"
	"eddy/num"
	"eddy/reg"
)

// small hands out every deal of small numbers, at either end, with flows either way.
func small(yield func(deal) bool) {
	for _, e := range []api.Link{{A: 2, B: 5}, {A: 5, B: 2}} {
		for _, r := range []api.Reg{{}, register(1, 2, 0), register(4, 5, 3), register(4, 2, -8)} {
			for rest := int64(-12); rest <= 12; rest++ {
				for told := int64(-12); told <= 12; told++ {
					if !yield(deal{e.A, e.B, r, rest, told}) {
						return
					}
				}
			}
		}
	}
}

// wideRange hands out deals at the edges of the range.
func wideRange(yield func(deal) bool) {
	for _, e := range edges() {
		for _, flow := range anyNumbers() {
			for _, rest := range anyNumbers() {
				for _, told := range anyNumbers() {
					d := deal{e.A, e.B, register(2, e.B, flow), rest, told}
					if d.sayEnds().err == api.OK && !yield(d) {
						return
					}
				}
			}
		}
	}
}

// everywhere does something with small deals, those at the edges of the range, and many that are drawn.
func everywhere(seed int64, do func(deal)) {
	small(func(d deal) bool { do(d); return true })
	wideRange(func(d deal) bool { do(d); return true })
	for d := range fitting(seed, 20000) {
		do(d)
	}
}

// evened holds one balance to what must follow of it.
func evened(t *testing.T, d deal) {
	t.Helper()
	m, ahead := d.balance(), d.ends()
	if m.err != api.OK {
		return
	}
	behind := d.with(m.r).ends()
	if behind.err != api.OK {
		t.Fatalf("%+v: Ends behind it: %v", d, behind)
	}
	if by := behind.mine - behind.theirs; by < -1 || by > 1 {
		t.Fatalf("%+v: %v behind it", d, behind)
	}
	least, greatest := min(ahead.mine, ahead.theirs), max(ahead.mine, ahead.theirs)
	if !among(behind.mine, least, greatest) || !among(behind.theirs, least, greatest) {
		t.Fatalf("%+v: %v ahead, %v behind it", d, ahead, behind)
	}
	if ahead.mine+ahead.theirs != behind.mine+behind.theirs {
		t.Fatalf("%+v: %v ahead, %v behind it: another sum", d, ahead, behind)
	}
	if behind.mine-ahead.mine != m.amount || ahead.theirs-behind.theirs != m.amount {
		t.Fatalf("%+v: %v ahead, %v behind it, moved %d", d, ahead, behind, m.amount)
	}
}

func TestP12_5BehindABalance(t *testing.T) {
	everywhere(125, func(d deal) { evened(t, d) })
}

// An amount of 0 leaves the register, and nothing is gained; any other one makes it newer, and 2 at least are gained.
func TestP12_5StampsAndGains(t *testing.T) {
	left, moved := 0, 0
	everywhere(1252, func(d deal) {
		m, g := d.balance(), d.gain()
		switch {
		case m.err != api.OK:
			if g != (gain{err: m.err}) {
				t.Fatalf("%+v: %v, gain %v", d, m, g)
			}
		case m.amount == 0:
			left++
			if m.r != d.r || g != (gain{}) {
				t.Fatalf("%+v: %v, gain %v", d, m, g)
			}
		default:
			moved++
			if !reg.Newer(m.r, d.r) || reg.Newer(d.r, m.r) || !reg.Fit(m.r, d.me, d.peer) || m.r.Writer != d.me || m.r.Ver != d.r.Ver+1 {
				t.Fatalf("%+v: %v", d, m)
			}
			if g.err != api.OK || num.Less(g.less, api.Wide{Lo: 2}) {
				t.Fatalf("%+v: %v, gain %v", d, m, g)
			}
		}
	})
	if left < 1000 || moved < 1000 {
		t.Errorf("left %d times, moved %d times", left, moved)
	}
}

// What is moved by one balance is not moved again: a second one, at either end, leaves the register.
func TestP12_5OnceIsEnough(t *testing.T) {
	for d := range fitting(1253, 10000) {
		m := d.balance()
		if m.err != api.OK {
			continue
		}
		for _, again := range []deal{d.with(m.r), d.with(m.r).turned()} {
			if got := again.balance(); got != (move{m.r, 0, api.OK}) {
				t.Fatalf("%+v: %v, then %v", d, m, got)
			}
		}
	}
}

// At the other end, me and peer, rest and told changed about, the same goes the other way: the registers differ by their
// Writers alone, and where one end has an error the other one has it.
func TestP12_6AtTheOtherEnd(t *testing.T) {
	other := func(d deal) {
		m, n := d.balance(), d.turned().balance()
		if m.amount != -n.amount || m.err != n.err || d.gain() != d.turned().gain() {
			t.Fatalf("%+v: %v, at the other end %v", d, m, n)
		}
		if m.r.Ver != n.r.Ver || m.r.Flow != n.r.Flow {
			t.Fatalf("%+v: %v, at the other end %v", d, m, n)
		}
		if m.amount != 0 && (m.r.Writer != d.me || n.r.Writer != d.peer) {
			t.Fatalf("%+v: %v, at the other end %v", d, m, n)
		}
		e, f := d.ends(), d.turned().ends()
		if e.mine != f.theirs || e.theirs != f.mine || e.err != f.err {
			t.Fatalf("%+v: %v, at the other end %v", d, e, f)
		}
	}
	everywhere(126, other)
	dice := newDice(1262)
	for range 20000 {
		other(dice.deal()) // estimates out of their range among them
	}
}

// In a play all amounts but the first are 0, and no later Balance has an error: what comes once comes however often.
func TestP12_7OnlyTheFirstMoves(t *testing.T) {
	check := func(d deal) {
		once, often := d.play(1), d.play(5)
		if once.err != often.err || once.r != often.r || len(once.amounts) > 0 && !often.same(row{once.r, first(once.amounts[0], 5), api.OK}) {
			t.Fatalf("%+v: once %v, five times %v", d, once, often)
		}
		if m := d.turned().balance(); m.err != once.err || m.err == api.OK && (m.r != once.r || m.amount != once.amounts[0]) {
			t.Fatalf("%+v: once %v, Balance %v", d, once, m)
		}
	}
	everywhere(127, check)
	for d := range fitting(1272, 300) {
		once := d.play(1)
		if once.err != api.OK {
			continue
		}
		for _, n := range []int{2, 99, 100, 101} {
			if got := d.play(n); !got.same(row{once.r, first(once.amounts[0], n), api.OK}) {
				t.Fatalf("%+v, %d times: %v", d, n, got)
			}
		}
	}
}
