package trade

import (
	"math"
	"slices"
	"testing"

	"eddy/api"
)

func endsAre(t *testing.T, cases map[string]struct {
	d    deal
	want pair
}) {
	t.Helper()
	for name, c := range cases {
		if got := c.d.ends(); got != c.want {
			t.Errorf("%s: Ends of %+v: %v, want %v", name, c.d, got, c.want)
		}
	}
}

// noNumber and noRange are what Ends answers beside an error.
func noNumber() pair { return pair{0, 0, api.ErrNumber} }
func noRange() pair  { return pair{0, 0, api.ErrRange} }

func TestP12_1Ends(t *testing.T) {
	r := register(1, 2, 7)
	endsAre(t, map[string]struct {
		d    deal
		want pair
	}{
		"example 1":                    {deal{2, 5, r, 10, 20}, pair{3, 27, api.OK}},
		"example 1, the other end":     {deal{5, 2, r, 20, 10}, pair{27, 3, api.OK}},
		"example 1, behind a balance":  {deal{2, 5, register(2, 2, -5), 10, 20}, pair{15, 15, api.OK}},
		"example 2":                    {deal{2, 5, register(1, 2, 1), -2147483647, 0}, noRange()},
		"example 2, one node":          {deal{2, 2, api.Reg{}, 0, 0}, noNumber()},
		"written by the peer":          {deal{2, 5, register(1, 5, 7), 10, 20}, pair{3, 27, api.OK}},
		"a flow below 0":               {deal{2, 5, register(1, 2, -7), 10, 20}, pair{17, 13, api.OK}},
		"a flow below 0, from above":   {deal{5, 2, register(1, 2, -7), 10, 20}, pair{3, 27, api.OK}},
		"the zero register":            {deal{2, 5, api.Reg{}, -4, 9}, pair{-4, 9, api.OK}},
		"a flow of 0":                  {deal{2, 5, register(3, 5, 0), -4, 9}, pair{-4, 9, api.OK}},
		"the greatest Ver":             {deal{2, 5, register(newest, 5, 1), 0, 0}, pair{-1, 1, api.OK}},
		"the least node":               {deal{0, 15, register(1, 0, 1), 0, 0}, pair{-1, 1, api.OK}},
		"the greatest node":            {deal{15, 0, register(1, 15, 1), 0, 0}, pair{1, -1, api.OK}},
		"the least node, written by 0": {deal{0, 1, register(1, 0, 4), 6, 0}, pair{2, 4, api.OK}},
	})
}

func TestP12_1EveryPairOfNodes(t *testing.T) {
	for me := range api.MaxNodes {
		for peer := range api.MaxNodes {
			want := pair{100 - 30, -8 + 30, api.OK}
			switch {
			case me == peer:
				want = noNumber()
			case me > peer:
				want = pair{100 + 30, -8 - 30, api.OK}
			}
			for _, writer := range []int{me, peer} {
				if got := (deal{me, peer, register(4, writer, 30), 100, -8}).ends(); got != want {
					t.Errorf("%d and %d, written by %d: %v, want %v", me, peer, writer, got, want)
				}
			}
		}
	}
}

// Numbers that are no nodes', on either side, with a register that would be fit if they were.
func TestP12_1NoNodes(t *testing.T) {
	for _, n := range []int{math.MinInt, -1 << 32, -16, -1, 16, 17, 1 << 32, 1<<32 + 5, math.MaxInt} {
		for _, r := range []api.Reg{{}, register(1, 2, 7), register(1, n, 7)} {
			for _, d := range []deal{{n, 2, r, 1, 2}, {2, n, r, 1, 2}, {n, n, r, 1, 2}, {n, n + 1, r, 1, 2}} {
				if got := d.ends(); got != noNumber() {
					t.Errorf("%+v: %v", d, got)
				}
			}
		}
	}
}

func TestP12_1RegistersThatAreNotFit(t *testing.T) {
	for name, r := range map[string]api.Reg{
		"Ver 0 with a Flow":           register(0, 0, 7),
		"Ver 0 with a Writer":         register(0, 2, 0),
		"Ver below 0":                 register(-1, 2, 7),
		"the least Ver of all":        register(math.MinInt64, 2, 7),
		"Ver beyond its greatest":     register(newest+1, 2, 7),
		"the greatest Ver of all":     register(math.MaxInt64, 2, 7),
		"a Writer between":            register(1, 3, 7),
		"a Writer below":              register(1, 0, 7),
		"a Writer that is no node":    register(1, -1, 7),
		"Flow below its least":        register(1, 2, -most-1),
		"Flow beyond its greatest":    register(1, 2, most+1),
		"the least Flow of all":       register(1, 2, math.MinInt64),
		"the greatest Flow of all":    register(1, 2, math.MaxInt64),
		"nothing that is as it ought": register(-3, 99, 1<<40),
	} {
		for _, d := range []deal{{2, 5, r, 10, 20}, {5, 2, r, 10, 20}, {2, 5, r, math.MinInt64, math.MaxInt64}} {
			if got := d.ends(); got != noNumber() {
				t.Errorf("%s: %+v: %v", name, d, got)
			}
		}
	}
}

// Rest, told and each of the estimates at the range's edge, one below and one beyond it; the other numbers are far from
// theirs. Of node 2 towards 5 the flow is what the edge takes.
func TestP12_1AtTheRange(t *testing.T) {
	for _, c := range []struct {
		rest, flow, told int64
		want             pair
	}{
		{most - 1, 0, 0, pair{most - 1, 0, api.OK}},
		{most, 0, 0, pair{most, 0, api.OK}},
		{most + 1, 0, 0, noRange()},
		{1 - most, 0, 0, pair{1 - most, 0, api.OK}},
		{-most, 0, 0, pair{-most, 0, api.OK}},
		{-most - 1, 0, 0, noRange()},
		{0, 0, most - 1, pair{0, most - 1, api.OK}},
		{0, 0, most, pair{0, most, api.OK}},
		{0, 0, most + 1, noRange()},
		{0, 0, 1 - most, pair{0, 1 - most, api.OK}},
		{0, 0, -most, pair{0, -most, api.OK}},
		{0, 0, -most - 1, noRange()},
		{1000, 1001 - most, 0, pair{most - 1, 1001 - most, api.OK}}, // me's estimate
		{1000, 1000 - most, 0, pair{most, 1000 - most, api.OK}},
		{1000, 999 - most, 0, noRange()},
		{-1000, most - 1001, 0, pair{1 - most, most - 1001, api.OK}},
		{-1000, most - 1000, 0, pair{-most, most - 1000, api.OK}},
		{-1000, most - 999, 0, noRange()},
		{0, most - 1001, 1000, pair{1001 - most, most - 1, api.OK}}, // the peer's
		{0, most - 1000, 1000, pair{1000 - most, most, api.OK}},
		{0, most - 999, 1000, noRange()},
		{0, 1001 - most, -1000, pair{most - 1001, 1 - most, api.OK}},
		{0, 1000 - most, -1000, pair{most - 1000, -most, api.OK}},
		{0, 999 - most, -1000, noRange()},
		{most + 1, 1, 0, noRange()}, // the estimate would fit, the rest does not
		{-most - 1, -1, 0, noRange()},
		{0, -1, most + 1, noRange()},
		{0, 1, -most - 1, noRange()},
		{most, most, -most, pair{0, 0, api.OK}},
		{-most, -most, most, pair{0, 0, api.OK}},
		{-most, most, 0, noRange()},
		{0, most, most, noRange()},
		{math.MinInt64, most, 0, noRange()}, // what wraps round is no number that fits
		{math.MaxInt64, -most, 0, noRange()},
		{0, -most, math.MinInt64, noRange()},
		{0, most, math.MaxInt64, noRange()},
		{math.MinInt64, 0, math.MaxInt64, noRange()},
		{1 << 32, 0, 0, noRange()},
		{0, 0, -1 << 32, noRange()},
	} {
		for _, e := range edges() {
			flow, want := c.flow, c.want
			if e.A > e.B {
				flow = -flow
			}
			for _, writer := range []int{e.A, e.B} {
				if got := (deal{e.A, e.B, register(9, writer, flow), c.rest, c.told}).ends(); got != want {
					t.Errorf("%v, rest %d, taken %d, told %d: %v, want %v", e, c.rest, c.flow, c.told, got, want)
				}
			}
		}
	}
}

// Where a number and the range are wrong, the number is told; which of the four that must fit does not plays no part.
func TestP12_1WhichErrorComes(t *testing.T) {
	for _, d := range []deal{
		{2, 2, api.Reg{}, most + 1, 0},
		{2, 16, api.Reg{}, 0, -most - 1},
		{-1, 5, register(1, 5, most), math.MinInt64, math.MinInt64},
		{2, 5, register(1, 4, 7), most + 1, most + 1},
		{2, 5, register(1, 2, most+1), -most, most},
		{2, 5, register(newest+1, 2, most), -most, most},
	} {
		if got := d.ends(); got != noNumber() {
			t.Errorf("Ends of %+v: %v", d, got)
		}
		if got := d.balance(); got != (move{err: api.ErrNumber}) {
			t.Errorf("Balance of %+v: %v", d, got)
		}
		if got := d.gain(); got != (gain{err: api.ErrNumber}) {
			t.Errorf("Gain of %+v: %v", d, got)
		}
		for _, n := range counts() {
			if got := d.play(n); !got.same(row{err: api.ErrNumber}) {
				t.Errorf("Play of %+v, %d times: %v", d, n, got)
			}
		}
	}
}

func TestP12_2Balance(t *testing.T) {
	r := register(1, 2, 7)
	for name, c := range map[string]struct {
		d    deal
		want move
	}{
		"example 1":                         {deal{2, 5, r, 10, 20}, move{register(2, 2, -5), 12, api.OK}},
		"example 1, the other end":          {deal{5, 2, r, 20, 10}, move{register(2, 5, -5), -12, api.OK}},
		"example 2, by 1":                   {deal{2, 5, api.Reg{}, 3, 4}, move{api.Reg{}, 0, api.OK}},
		"example 2, as far as may be":       {deal{2, 5, api.Reg{}, -2147483647, 2147483647}, move{register(1, 2, -2147483647), 2147483647, api.OK}},
		"example 2, one node":               {deal{2, 2, r, 10, 20}, move{err: api.ErrNumber}},
		"as far as may be, turned":          {deal{2, 5, api.Reg{}, most, -most}, move{register(1, 2, most), -most, api.OK}},
		"as far as may be, from above":      {deal{5, 2, api.Reg{}, most, -most}, move{register(1, 5, -most), -most, api.OK}},
		"one less than that":                {deal{2, 5, api.Reg{}, -most, most - 1}, move{register(1, 2, 1-most), most - 1, api.OK}},
		"all of a flow back, and as much":   {deal{2, 5, register(6, 5, most), 0, 0}, move{register(7, 2, 0), most, api.OK}},
		"from one edge of the flow to one":  {deal{2, 5, register(6, 5, most), 0, -1}, move{register(7, 2, 1), most - 1, api.OK}},
		"even, with a flow":                 {deal{2, 5, register(6, 5, 4), 8, 0}, move{register(6, 5, 4), 0, api.OK}},
		"an estimate out of its range":      {deal{2, 5, register(1, 2, 1), -most, 0}, move{err: api.ErrRange}},
		"the peer's out of its range":       {deal{2, 5, register(1, 2, 1), 0, most}, move{err: api.ErrRange}},
		"rest out of its range":             {deal{2, 5, api.Reg{}, most + 1, 0}, move{err: api.ErrRange}},
		"told out of its range":             {deal{2, 5, api.Reg{}, 0, math.MinInt64}, move{err: api.ErrRange}},
		"the greatest Ver, moved":           {deal{2, 5, register(newest, 2, 0), 0, 9}, move{err: api.ErrRange}},
		"the greatest Ver, moved by 1":      {deal{2, 5, register(newest, 5, 0), 0, -2}, move{err: api.ErrRange}},
		"the greatest Ver, by 1":            {deal{2, 5, register(newest, 2, 0), 0, 1}, move{register(newest, 2, 0), 0, api.OK}},
		"the greatest Ver, even, the other": {deal{5, 2, register(newest, 2, 3), 1, 7}, move{register(newest, 2, 3), 0, api.OK}},
		"one below the greatest Ver":        {deal{2, 5, register(newest-1, 5, 0), 0, 9}, move{register(newest, 2, -4), 4, api.OK}},
		"the least and the greatest node":   {deal{0, 15, register(1, 0, 3), 0, 0}, move{register(2, 0, 0), 3, api.OK}},
		"the greatest and the least node":   {deal{15, 0, register(1, 0, 3), 0, 0}, move{register(2, 15, 0), -3, api.OK}},
	} {
		if got := c.d.balance(); got != c.want {
			t.Errorf("%s: Balance of %+v: %v, want %v", name, c.d, got, c.want)
		}
	}
}

// What the estimates differ by is halved, cut off towards zero; the register is written by me.
func TestP12_2WhatGoesOver(t *testing.T) {
	for by, want := range map[int64]int64{
		0: 0, 1: 0, -1: 0, 2: 1, -2: -1, 3: 1, -3: -1, 4: 2, -4: -2, 5: 2, -5: -2, 7: 3, -7: -3, 100: 50, -101: -50,
		most: 1<<30 - 1, -most: 1 - 1<<30, most - 1: 1<<30 - 1, 1 - most: 1 - 1<<30,
	} {
		for _, e := range edges() {
			for _, low := range []int64{-most, -1, 0, 1 << 10} {
				mine, theirs := low, low+by
				if by < 0 {
					mine, theirs = low-by, low
				}
				if theirs > most || mine > most {
					continue
				}
				d := deal{e.A, e.B, register(5, e.B, 0), mine, theirs}
				flow := -want // what goes from the peer to me goes against the flow, where me is the lower one
				if e.A > e.B {
					flow = want
				}
				say := move{register(6, e.A, flow), want, api.OK}
				if want == 0 {
					say.r = d.r
				}
				if got := d.balance(); got != say {
					t.Errorf("by %d: Balance of %+v: %v, want %v", by, d, got, say)
				}
			}
		}
	}
}

// A flow never leaves its range by a balance, as behind it is half of what the rests differ by: Move refuses alone
// where there is no version left, and something to be moved.
func TestP12_2MovesErrorIsTheLastVersion(t *testing.T) {
	refused := 0
	for _, e := range edges() {
		for _, ver := range []int64{1, newest - 1, newest} {
			for _, flow := range anyNumbers() {
				for _, rest := range anyNumbers() {
					for _, told := range anyNumbers() {
						d := deal{e.A, e.B, register(ver, e.B, flow), rest, told}
						p := d.ends()
						if p.err != api.OK {
							continue
						}
						by := p.theirs - p.mine
						none := ver == newest && (by < -1 || by > 1)
						if m := d.balance(); none != (m == move{err: api.ErrRange}) || !none && m.err != api.OK {
							t.Fatalf("Balance of %+v: %v", d, m)
						}
						if none {
							refused++
						}
					}
				}
			}
		}
	}
	if refused < 1000 {
		t.Errorf("refused %d times", refused)
	}
}

func TestP12_4Gain(t *testing.T) {
	for name, c := range map[string]struct {
		d    deal
		want gain
	}{
		"0 and 9":                      {deal{2, 5, api.Reg{}, 0, 9}, gain{api.Wide{Lo: 40}, api.OK}},
		"9 and 0":                      {deal{2, 5, api.Reg{}, 9, 0}, gain{api.Wide{Lo: 40}, api.OK}},
		"example 1":                    {deal{2, 5, register(1, 2, 7), 10, 20}, gain{api.Wide{Lo: 9 + 729 - 450}, api.OK}},
		"even":                         {deal{2, 5, register(1, 2, 4), 8, 0}, gain{}},
		"by 1":                         {deal{2, 5, api.Reg{}, 3, 4}, gain{}},
		"by 1 at the edge":             {deal{2, 5, api.Reg{}, most, most - 1}, gain{}},
		"by 2":                         {deal{2, 5, api.Reg{}, 3, 5}, gain{api.Wide{Lo: 2}, api.OK}},
		"by 2 at the edge":             {deal{2, 5, api.Reg{}, -most, 2 - most}, gain{api.Wide{Lo: 2}, api.OK}},
		"by 3":                         {deal{2, 5, api.Reg{}, 5, 2}, gain{api.Wide{Lo: 4}, api.OK}},
		"about nought":                 {deal{2, 5, api.Reg{}, -1, 1}, gain{api.Wide{Lo: 2}, api.OK}},
		"as far as may be":             {deal{2, 5, api.Reg{}, -most, most}, gain{api.Wide{Lo: 2 * 2147483647 * 2147483647}, api.OK}},
		"as far as may be, from above": {deal{5, 2, api.Reg{}, -most, most}, gain{api.Wide{Lo: 2 * 2147483647 * 2147483647}, api.OK}},
		"one node":                     {deal{2, 2, api.Reg{}, 0, 9}, gain{err: api.ErrNumber}},
		"no node":                      {deal{2, 16, api.Reg{}, 0, 9}, gain{err: api.ErrNumber}},
		"an unfit register":            {deal{2, 5, register(1, 3, 0), 0, 9}, gain{err: api.ErrNumber}},
		"rest out of its range":        {deal{2, 5, api.Reg{}, -most - 1, 9}, gain{err: api.ErrRange}},
		"told out of its range":        {deal{2, 5, api.Reg{}, 0, math.MaxInt64}, gain{err: api.ErrRange}},
		"an estimate out of its range": {deal{2, 5, register(1, 2, 1), 0, most}, gain{err: api.ErrRange}},
		"no version left":              {deal{2, 5, register(newest, 2, 0), 0, 9}, gain{err: api.ErrRange}},
		"no version left, by 1":        {deal{2, 5, register(newest, 2, 0), 0, 1}, gain{}},
	} {
		if got := c.d.gain(); got != c.want {
			t.Errorf("%s: Gain of %+v: %v, want %v", name, c.d, got, c.want)
		}
	}
}

// Every call is what the words say: of each pair of numbers as nodes with registers fit for them or not, of numbers at all
// edges as register, rest and told, and of many that are drawn.
func TestP12_1To4AnyNodesAndRegisters(t *testing.T) {
	var writers []int
	for _, me := range anyNodes() {
		for _, peer := range anyNodes() {
			writers = append(writers[:0], me, peer, 3, 0)
			for _, ver := range anyVersions() {
				for _, writer := range writers {
					for _, flow := range []int64{math.MinInt64, -most - 1, -most, -3, 0, most, most + 1} {
						right(t, deal{me, peer, register(ver, writer, flow), 2, 11})
					}
				}
			}
		}
	}
}

func TestP12_1To4AnyNumbers(t *testing.T) {
	for _, e := range []api.Link{{A: 2, B: 5}, {A: 15, B: 0}} {
		for _, ver := range []int64{1, newest} {
			for _, flow := range anyNumbers() {
				for _, rest := range anyNumbers() {
					for _, told := range anyNumbers() {
						right(t, deal{e.A, e.B, register(ver, e.A, flow), rest, told})
					}
				}
			}
		}
	}
}

func TestP12_1To4WhatIsDrawn(t *testing.T) {
	d := newDice(124)
	for range 50000 {
		right(t, d.deal())
	}
}

// Every call ends and none panics, at all arguments; beside an error all else is zero.
func TestNothingPanics(t *testing.T) {
	d := newDice(1)
	nodes, numbers, versions := anyNodes(), anyNumbers(), anyVersions()
	for range 50000 {
		number := func() int64 { return numbers[d.Intn(len(numbers))] }
		node := func() int { return nodes[d.Intn(len(nodes))] }
		x := deal{node(), node(), register(versions[d.Intn(len(versions))], node(), number()), number(), number()}
		n := counts()[d.Intn(len(counts()))]
		e, b, p, g := x.ends(), x.balance(), x.play(n), x.gain()
		if e.err != api.OK && e != (pair{err: e.err}) || b.err != api.OK && b != (move{err: b.err}) || g.err != api.OK && g != (gain{err: g.err}) {
			t.Fatalf("%+v: %v, %v, %v", x, e, b, g)
		}
		if p.err != api.OK && (p.amounts != nil || p.r != api.Reg{}) || !slices.Contains([]api.Errno{api.OK, api.ErrRange, api.ErrNumber}, p.err) {
			t.Fatalf("Play of %+v, %d times: %v", x, n, p)
		}
	}
}
