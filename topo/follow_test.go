package topo

import (
	"slices"
	"testing"

	"eddy/api"
)

// Among as many Nexts as neighbours are wanted each is given once, wherever the turn stands; Wait tells at which of them,
// and the turn is back behind them.
func TestP13_8EverybodysTurn(t *testing.T) {
	everywhere(138, func(r ring) {
		at, given := r, map[int]int{}
		for i := range r.want {
			x := at.next()
			if !x.ok || given[x.v] != 0 || !slices.Contains(r.want, x.v) {
				t.Fatalf("%+v: Next %d is %v, given were %v", r, i+1, x, given)
			}
			given[x.v] = i + 1
			at.turn = x.turn
		}
		if at.turn != r.turn || len(given) != len(r.want) {
			t.Fatalf("%+v: the turn is %d, given were %v", r, at.turn, given)
		}
		for v, n := range given {
			if got := r.wait(v); got != n {
				t.Fatalf("%+v: Wait of %d is %d, but Next %d gives it", r, v, got, n)
			}
		}
	})
}

// What holds from one turn holds from all that come behind it, over several rounds, as Turns tells them.
func TestP13_8AnyRoundOfTurns(t *testing.T) {
	d := newDice(1382)
	for range 2000 {
		r := d.ring()
		n := len(r.want)
		told := r.turns(5 * n)
		for i := 0; i+n <= len(told); i++ {
			round, want := slices.Clone(told[i:i+n]), slices.Clone(r.want)
			slices.Sort(round)
			slices.Sort(want)
			if !slices.Equal(round, want) {
				t.Fatalf("%+v: turns %d to %d are %v", r, i+1, i+n, told[i:i+n])
			}
		}
		if len(told) != 5*n {
			t.Fatalf("%+v: %d turns", r, len(told))
		}
	}
}

func TestP13_9ThereAndBack(t *testing.T) {
	linked := 0
	everywhere(139, func(r ring) {
		for v := range api.MaxNodes {
			there := r.link(v)
			if there.err != api.OK {
				continue
			}
			linked++
			back := ring{r.id, there.want, r.turn}.unlink(v)
			if !back.same(cut{r.want, r.turn, api.OK}) {
				t.Fatalf("%+v: %v with %d, %v behind it", r, there.want, v, back)
			}
		}
	})
	if linked < 10000 {
		t.Errorf("linked %d times", linked)
	}
}

// The other way round: a Link leaves the Waits of the others, or makes them one more.
func TestP13_9LinkAndWaits(t *testing.T) {
	everywhere(1391, func(r ring) {
		for v := range api.MaxNodes {
			there := r.link(v)
			if there.err != api.OK {
				continue
			}
			with := ring{r.id, there.want, r.turn}
			for _, u := range r.want {
				if by := with.wait(u) - r.wait(u); by != 0 && by != 1 {
					t.Fatalf("%+v with %d: Wait of %d is %d, was %d", r, v, u, with.wait(u), r.wait(u))
				}
			}
		}
	})
}

// An Unlink of another one leaves the Wait, where that one's turn comes later, and makes it one less, where it comes
// earlier.
func TestP13_9WaitsOfTheOthers(t *testing.T) {
	left, less := 0, 0
	everywhere(1392, func(r ring) {
		for _, u := range r.want {
			x := r.unlink(u)
			without := ring{r.id, x.want, x.turn}
			for _, v := range r.want {
				want := r.wait(v)
				switch {
				case u == v:
					want = 0
				case r.wait(u) < r.wait(v):
					want--
					less++
				default:
					left++
				}
				if got := without.wait(v); got != want {
					t.Fatalf("%+v without %d: Wait of %d is %d, was %d", r, u, v, got, r.wait(v))
				}
			}
		}
	})
	if left < 10000 || less < 10000 {
		t.Errorf("left %d times, less %d times", left, less)
	}
}

// Whatever is called, with whichever number, the list is a fit one behind it, beside errors too.
func TestP13_10ListsStayFit(t *testing.T) {
	everywhere(1310, func(r ring) {
		if x := r.next(); !(ring{r.id, r.want, x.turn}).fit() {
			t.Fatalf("%+v behind Next: turn %d", r, x.turn)
		}
		for _, v := range anyNumbers() {
			if l := r.link(v); !(ring{r.id, l.want, r.turn}).fit() {
				t.Fatalf("%+v behind Link of %d: %v", r, v, l)
			}
			if c := r.unlink(v); !(ring{r.id, c.want, c.turn}).fit() {
				t.Fatalf("%+v behind Unlink of %d: %v", r, v, c)
			}
		}
	})
}

// Long rows of calls, one on what the other left, are right at every moment.
func TestP13_10RowsOfCalls(t *testing.T) {
	lengths := map[int]int{}
	for id := range api.MaxNodes {
		d := newDice(int64(13100 + id))
		r := ring{id: id}
		for range 2000 {
			v := d.Intn(18) - 1
			switch d.Intn(5) {
			case 0, 1:
				l := r.link(v)
				r.want = l.want
			case 2:
				if len(r.want) > 0 && d.Intn(3) == 0 {
					v = r.want[d.Intn(len(r.want))]
				}
				x := r.unlink(v)
				r.want, r.turn = x.want, x.turn
			default:
				r.turn = r.next().turn
			}
			right(t, r)
			lengths[len(r.want)]++
		}
	}
	for n := range api.MaxDegree + 1 {
		if lengths[n] < 50 {
			t.Errorf("%d wanted: %d times", n, lengths[n])
		}
	}
}
