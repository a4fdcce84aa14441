package reg

import (
	"math"
	"slices"
	"testing"

	"eddy/api"
)

func TestP9_6Out(t *testing.T) {
	for _, c := range []struct {
		name     string
		r        api.Reg
		me, peer int
		want     int64
	}{
		{"the lower end", reg(1, 2, 7), 2, 5, 7},
		{"the higher end", reg(1, 2, 7), 5, 2, -7},
		{"a flow below 0, the lower end", reg(1, 5, -7), 2, 5, -7},
		{"a flow below 0, the higher end", reg(1, 5, -7), 5, 2, 7},
		{"the greatest flow", reg(1, 0, most), 0, 15, most},
		{"the greatest flow, the higher end", reg(1, 0, most), 15, 0, -most},
		{"the least flow", reg(newest, 15, -most), 0, 15, -most},
		{"the least flow, the higher end", reg(newest, 15, -most), 15, 0, most},
		{"no flow", reg(1, 2, 0), 5, 2, 0},
		{"the zero register", api.Reg{}, 2, 5, 0},
		{"written by neither", reg(1, 4, 7), 2, 5, 0},
		{"Ver 0", reg(0, 2, 7), 2, 5, 0},
		{"Ver 0 and Writer 0", reg(0, 0, 7), 0, 5, 0},
		{"Ver below 0", reg(-1, 2, 7), 2, 5, 0},
		{"Ver beyond MaxVer", reg(newest+1, 2, 7), 2, 5, 0},
		{"a flow beyond its range", reg(1, 2, most+1), 2, 5, 0},
		{"a flow below its range", reg(1, 2, -most-1), 5, 2, 0},
		{"the least number", reg(1, 2, math.MinInt64), 5, 2, 0},
		{"the greatest number", reg(1, 2, math.MaxInt64), 2, 5, 0},
		{"a node and itself", reg(1, 2, 7), 2, 2, 0},
		{"below the nodes", reg(1, 2, 7), -1, 2, 0},
		{"beyond the nodes", reg(1, 2, 7), 2, 16, 0},
	} {
		if got := Out(c.r, c.me, c.peer); got != c.want {
			t.Errorf("%s: Out(%v, %d, %d): %d, want %d", c.name, c.r, c.me, c.peer, got, c.want)
		}
	}
}

func TestP9_6OutByTheWords(t *testing.T) {
	for _, r := range registers([]int64{-1, 0, 1, newest, newest + 1}, ends(), flows()) {
		for _, me := range ends() {
			for _, peer := range ends() {
				if got, want := Out(r, me, peer), sayOut(r, me, peer); got != want {
					t.Fatalf("Out(%v, %d, %d): %d, want %d", r, me, peer, got, want)
				}
			}
		}
	}
}

func TestP9_7Move(t *testing.T) {
	movesAre(t, []moveCase{
		{"from below, by the giver", reg(4, 5, 10), 2, 5, 3, 2, reg(5, 2, 13), api.OK},
		{"from below, by the taker", reg(4, 5, 10), 2, 5, 3, 5, reg(5, 5, 13), api.OK},
		{"from above, by the giver", reg(4, 5, 10), 5, 2, 3, 5, reg(5, 5, 7), api.OK},
		{"from above, by the taker", reg(4, 5, 10), 5, 2, 3, 2, reg(5, 2, 7), api.OK},
		{"below 0, from below", reg(4, 5, 10), 2, 5, -11, 2, reg(5, 2, -1), api.OK},
		{"below 0, from above", reg(4, 5, 10), 5, 2, -11, 5, reg(5, 5, 21), api.OK},
		{"the first one, 1", api.Reg{}, 0, 15, 1, 15, reg(1, 15, 1), api.OK},
		{"the first one, -1", api.Reg{}, 0, 15, -1, 0, reg(1, 0, -1), api.OK},
		{"the first one, all", api.Reg{}, 0, 15, most, 0, reg(1, 0, most), api.OK},
		{"the first one, all of it back", api.Reg{}, 0, 15, -most, 0, reg(1, 0, -most), api.OK},
		{"the first one, all, from above", api.Reg{}, 15, 0, most, 0, reg(1, 0, -most), api.OK},
		{"the first one, all of it back, from above", api.Reg{}, 15, 0, -most, 0, reg(1, 0, most), api.OK},
		{"back to 0", reg(7, 2, most), 5, 2, most, 5, reg(8, 5, 0), api.OK},
		{"up to the greatest flow", reg(7, 2, most-1), 2, 5, 1, 5, reg(8, 5, most), api.OK},
		{"down to the least flow", reg(7, 2, -most+1), 5, 2, 1, 5, reg(8, 5, -most), api.OK},
		{"up to the greatest version", reg(newest-1, 2, 7), 2, 5, 1, 5, reg(newest, 5, 8), api.OK},
	})
}

func TestP9_7MoveRefuses(t *testing.T) {
	var cases []moveCase
	refused := func(name string, r api.Reg, from, to int, amount int64, writer int, err api.Errno) {
		cases = append(cases, moveCase{name, r, from, to, amount, writer, api.Reg{}, err})
	}
	refused("a and itself", api.Reg{}, 2, 2, 1, 2, api.ErrNumber)
	refused("below the nodes", api.Reg{}, -1, 2, 1, 2, api.ErrNumber)
	refused("below the nodes, that one writes", api.Reg{}, 2, -1, 1, -1, api.ErrNumber)
	refused("beyond the nodes", api.Reg{}, 2, 16, 1, 16, api.ErrNumber)
	refused("an unfit Ver", reg(newest+1, 2, 7), 2, 5, 1, 2, api.ErrNumber)
	refused("an unfit Ver below 0", reg(-1, 2, 7), 2, 5, 1, 2, api.ErrNumber)
	refused("Ver 0 with a Writer", reg(0, 2, 0), 2, 5, 1, 2, api.ErrNumber)
	refused("Ver 0 with a Flow", reg(0, 0, 1), 0, 5, 1, 0, api.ErrNumber)
	refused("an unfit Writer", reg(1, 4, 7), 2, 5, 1, 2, api.ErrNumber)
	refused("an unfit Flow", reg(1, 2, most+1), 2, 5, -1, 2, api.ErrNumber)
	refused("an unfit Flow below 0", reg(1, 2, -most-1), 2, 5, 1, 2, api.ErrNumber)
	refused("a writer between", reg(1, 2, 7), 2, 5, 1, 3, api.ErrNumber)
	refused("a writer that is no node", reg(1, 2, 7), 2, 5, 1, -1, api.ErrNumber)
	refused("a writer 0 that is neither", api.Reg{}, 2, 5, 1, 0, api.ErrNumber)
	for _, amount := range []int64{most + 1, -most - 1, math.MaxInt64, math.MinInt64, math.MinInt64 + 1} {
		refused("too great an amount", reg(1, 2, 7), 2, 5, amount, 2, api.ErrRange)
		refused("too great an amount, from above", reg(1, 2, 7), 5, 2, amount, 2, api.ErrRange)
		refused("too great an amount, where the flow would fit", reg(1, 2, -most), 2, 5, amount, 2, api.ErrRange)
		refused("too great an amount, where the flow would fit as well", reg(1, 2, most), 2, 5, amount, 2, api.ErrRange)
	}
	refused("one too many", reg(1, 2, most), 2, 5, 1, 2, api.ErrRange)
	refused("one too few", reg(1, 2, -most), 2, 5, -1, 2, api.ErrRange)
	refused("one too few, from above", reg(1, 2, -most), 5, 2, 1, 2, api.ErrRange)
	refused("one too many, from above", reg(1, 2, most), 5, 2, -1, 2, api.ErrRange)
	refused("twice all", reg(1, 2, most), 2, 5, most, 5, api.ErrRange)
	refused("twice all, below 0", reg(1, 2, -most), 5, 2, most, 5, api.ErrRange)
	refused("the last version", reg(newest, 2, 7), 2, 5, 1, 5, api.ErrRange)
	refused("the last version, back to 0", reg(newest, 2, 7), 5, 2, 7, 5, api.ErrRange)
	movesAre(t, cases)
}

// Of several errors the first one is told: the register or the writer, and then what leaves its range.
func TestP9_7TheFirstErrorIsTold(t *testing.T) {
	for _, amount := range []int64{0, 1, most, most + 1, -most - 1, math.MaxInt64, math.MinInt64} {
		for _, r := range []api.Reg{{}, reg(1, 2, most), reg(newest, 2, most), reg(newest, 5, -most)} {
			for _, writer := range []int{math.MinInt, -1, 0, 1, 3, 4, 6, 15, 16, math.MaxInt} {
				movesAre(t, []moveCase{{"a writer that is neither", r, 2, 5, amount, writer, api.Reg{}, api.ErrNumber}})
			}
			for _, pair := range [][2]int{{2, 2}, {2, 16}, {2, -1}, {2, math.MaxInt}} {
				movesAre(t, []moveCase{
					{"no edge", r, pair[0], pair[1], amount, 2, api.Reg{}, api.ErrNumber},
					{"no edge, turned round", r, pair[1], pair[0], amount, 2, api.Reg{}, api.ErrNumber},
				})
			}
		}
		for _, r := range []api.Reg{reg(newest+1, 2, 7), reg(0, 2, 0), reg(1, 2, most+1), reg(1, 4, 7), reg(-1, 2, 7)} {
			movesAre(t, []moveCase{{"an unfit register", r, 2, 5, amount, 2, api.Reg{}, api.ErrNumber}})
		}
	}
}

// An amount of 0 leaves the register as it is: its version, whoever writes, at MaxVer as well.
func TestP9_7NothingIsMoved(t *testing.T) {
	for e, r := range fitting {
		for _, writer := range []int{e.A, e.B} {
			if got, err := Move(r, e.A, e.B, 0, writer); got != r || err != api.OK {
				t.Fatalf("Move(%v, %d, %d, 0, %d): %v, %v", r, e.A, e.B, writer, got, err)
			}
		}
	}
	movesAre(t, []moveCase{{"MaxVer", reg(newest, 2, most), 2, 5, 0, 5, reg(newest, 2, most), api.OK}})
}

func TestP9_7MoveByTheWords(t *testing.T) {
	few := []int{-1, 0, 2, 5, 15, 16}
	for _, r := range append(registers([]int64{-1, 0, 1, newest - 1, newest, newest + 1}, few, []int64{-most - 1, -most, -1, 0, 1, most, most + 1}), api.Reg{}) {
		for _, from := range few {
			for _, to := range few {
				for _, writer := range few {
					for _, amount := range flows() {
						got, err := Move(r, from, to, amount, writer)
						want, wrong := sayMove(r, from, to, amount, writer)
						if got != want || err != wrong {
							t.Fatalf("Move(%v, %d, %d, %d, %d): %v, %v, want %v, %v", r, from, to, amount, writer, got, err, want, wrong)
						}
					}
				}
			}
		}
	}
}

// groupings are all ways to merge three, in all their orders.
func groupings(a, b, c api.Reg) []api.Reg {
	var l []api.Reg
	for _, o := range [][3]api.Reg{{a, b, c}, {a, c, b}, {b, a, c}, {b, c, a}, {c, a, b}, {c, b, a}} {
		x, y, z := o[0], o[1], o[2]
		l = append(l, Merge(Merge(x, y), z), Merge(x, Merge(y, z)), Most(o[:]), Merge(Merge(x, y), Merge(x, z)), Merge(Merge(Merge(x, y), z), x))
	}
	return l
}

func TestP9_8MergeWithItself(t *testing.T) {
	for _, r := range registers(versions(), ends(), flows()) {
		if got := Merge(r, r); got != r {
			t.Fatalf("Merge(%v, itself): %v", r, got)
		}
	}
}

// Each stamp has one flow here, that rises neither with the version nor with the writer.
func TestP9_8MergesOfThree(t *testing.T) {
	var all []api.Reg
	for i, s := range registers([]int64{-1, 0, 1, 2, newest}, []int{-1, 0, 2, 5, 15}, []int64{0}) {
		all = append(all, reg(s.Ver, s.Writer, int64(i*11%25-12)))
	}
	for _, a := range all {
		for _, b := range all {
			if Merge(a, b) != Merge(b, a) {
				t.Fatalf("%v and %v: %v, turned round %v", a, b, Merge(a, b), Merge(b, a))
			}
			for _, c := range all {
				want := a
				for _, r := range []api.Reg{b, c} {
					if sayNewer(r, want) {
						want = r
					}
				}
				if l := groupings(a, b, c); slices.ContainsFunc(l, func(r api.Reg) bool { return r != want }) {
					t.Fatalf("%v, %v, %v: %v, want %v", a, b, c, l, want)
				}
			}
		}
	}
}

// Which one comes out hangs on stamps alone: other flows in the same places, and the same place comes out.
func TestP9_8FlowsPlayNoPart(t *testing.T) {
	stamps := registers([]int64{0, 1, 2}, []int{0, 2, 5}, []int64{0})
	for i, a := range stamps {
		for j, b := range stamps {
			for k, c := range stamps {
				if i == j || j == k || i == k {
					continue
				}
				first := Most([]api.Reg{a, b, c})
				for _, f := range [][3]int64{{1, 2, 3}, {3, 2, 1}, {-most, most, 0}, {math.MaxInt64, math.MinInt64, 7}} {
					a.Flow, b.Flow, c.Flow = f[0], f[1], f[2]
					for _, r := range groupings(a, b, c) {
						if r.Ver != first.Ver || r.Writer != first.Writer || !slices.Contains([]api.Reg{a, b, c}, r) {
							t.Fatalf("%v, %v, %v: %v, want the stamp of %v", a, b, c, r, first)
						}
					}
				}
			}
		}
	}
}

// movedRight asks for all that follows of a move from e.A to e.B.
func movedRight(t *testing.T, e api.Link, r api.Reg, amount int64, writer int) {
	t.Helper()
	from, to := e.A, e.B
	got, err := Move(r, from, to, amount, writer)
	if err != api.OK || amount == 0 {
		return
	}
	if !Newer(got, r) || Newer(r, got) || !Fit(got, from, to) || !Fit(got, to, from) || got.Writer != writer {
		t.Fatalf("Move(%v, %d, %d, %d, %d): %v", r, from, to, amount, writer, got)
	}
	if Merge(r, got) != got || Merge(got, r) != got || Agree(r, got) {
		t.Fatalf("Move(%v, ..): %v does not hold", r, got)
	}
	if Out(got, from, to) != Out(r, from, to)+amount || Out(got, to, from) != Out(r, to, from)-amount {
		t.Fatalf("Move(%v, %d, %d, %d, ..): %v: out %d, %d", r, from, to, amount, got, Out(got, from, to), Out(got, to, from))
	}
	for _, by := range []int{from, to} {
		back, err := Move(got, from, to, -amount, by)
		turned, again := Move(got, to, from, amount, by)
		if got.Ver == newest {
			if err != api.ErrRange || again != api.ErrRange {
				t.Fatalf("back at the last version: %v, %v", err, again)
			}
			continue
		}
		if want := reg(got.Ver+1, by, r.Flow); back != want || turned != want || err != api.OK || again != api.OK {
			t.Fatalf("%v back: %v, %v; turned round: %v, %v", got, back, err, turned, again)
		}
	}
}

func TestP9_9WhatMoveGives(t *testing.T) {
	for e, r := range fitting {
		for _, amount := range flows() {
			movedRight(t, e, r, amount, e.A)
			movedRight(t, e, r, amount, e.B)
		}
	}
	for e, r := range drawn(20000) {
		movedRight(t, e, r, r.Ver%(2*most+1)-most, e.A)
		movedRight(t, e, r, most-r.Flow, e.B)
		movedRight(t, e, r, -r.Flow, e.A)
	}
}

// A row of moves to and fro: versions rise by one, and the flow is what went over in all.
func TestP9_9ARowOfMoves(t *testing.T) {
	r, sum := api.Reg{}, int64(0)
	for i := range 1000 {
		amount := int64(i*7919%2003 - 1001)
		from, to := 3, 11
		if i%3 == 0 {
			from, to = to, from
		}
		got, err := Move(r, from, to, amount, from)
		if err != api.OK {
			t.Fatal(err)
		}
		if from < to {
			sum += amount
		} else {
			sum -= amount
		}
		wantVer := r.Ver
		if amount != 0 {
			wantVer++
		}
		if got.Ver != wantVer || Out(got, 3, 11) != sum || Out(got, 11, 3) != -sum {
			t.Fatalf("move %d: %v, want version %d, flow %d", i, got, wantVer, sum)
		}
		r = got
	}
}

func TestP9_10OutOfTheTwoEnds(t *testing.T) {
	for e, r := range fitting {
		if Out(r, e.A, e.B) != -Out(r, e.B, e.A) || e.A < e.B && Out(r, e.A, e.B) != r.Flow {
			t.Fatalf("%v: %d, %d", r, Out(r, e.A, e.B), Out(r, e.B, e.A))
		}
	}
	for e, r := range drawn(20000) {
		if a, b := Out(r, e.A, e.B), Out(r, e.B, e.A); a != -b || Out(r, min(e.A, e.B), max(e.A, e.B)) != r.Flow {
			t.Fatalf("%v: %d, %d", r, a, b)
		}
	}
	for _, r := range registers(versions(), ends(), flows()) {
		if Out(r, 2, 5) != -Out(r, 5, 2) {
			t.Fatalf("%v: %d, %d", r, Out(r, 2, 5), Out(r, 5, 2))
		}
	}
}
