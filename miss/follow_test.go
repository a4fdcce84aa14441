package miss

import (
	"slices"
	"testing"

	"eddy/api"
	"eddy/half"
)

func turns(n int) []int { return slices.Repeat([]int{turn}, n) }

// Nothing but turns drops within MissLimit + 1 of them, just when Left says.
func TestP15_7TheDeadAreDropped(t *testing.T) {
	for _, h := range fitOnes {
		for n := range 12 {
			x, told := Play(h, turns(n))
			is := slices.Contains(told, api.TkDrop)
			if is != (n >= Left(h)) || is != isZero(x) || len(told) != min(n, Left(h)) {
				t.Errorf("%+v, %d turns, Left %d: %+v, %v", h, n, Left(h), x, told)
			}
			if n == api.MissLimit+1 && !is {
				t.Errorf("%+v is not dropped by %d turns", h, n)
			}
		}
	}
}

// Asks out of turn don't keep it: they hear nothing.
func TestP15_7AsksKeepNothing(t *testing.T) {
	d := newDice(157)
	for range 5000 {
		h := d.half()
		var row []int
		for range api.MissLimit + 1 {
			row = append(slices.Concat(row, slices.Repeat([]int{asked}, d.Intn(3))), turn)
		}
		if x, told := Play(h, row); !isZero(x) || told[len(told)-1] != api.TkDrop {
			t.Fatalf("%+v, %v: %+v, %v", h, row, x, told)
		}
	}
}

// So it is behind whatever happened: with turns alone from then on it is dropped, just when Left says.
func TestP15_7BehindAnyRow(t *testing.T) {
	d, seen := newDice(1572), map[int]int{}
	for range 5000 {
		h, told := Play(d.half(), d.row(30))
		if slices.Contains(told, api.TkDrop) {
			continue
		}
		left := Left(h)
		seen[left]++
		if x, told := Play(h, turns(left-1)); isZero(x) || slices.Contains(told, api.TkDrop) {
			t.Fatalf("%+v, Left %d: dropped by fewer: %v", h, left, told)
		}
		if x, told := Play(h, turns(left)); !isZero(x) || len(told) != left || left > api.MissLimit+1 {
			t.Fatalf("%+v, Left %d: %+v, %v", h, left, x, told)
		}
	}
	for left := 1; left <= 4; left++ {
		if seen[left] < 50 {
			t.Errorf("Left is %v", seen)
		}
	}
}

// living is a long row in which something is heard at least ahead of every third turn.
func (d dice) living(length int) []int {
	l := make([]int, 0, length)
	silence := 0 // turns since something was heard
	for len(l) < length {
		what := 1 + d.Intn(5)
		if silence == 2 && what == turn {
			what = heard + d.Intn(2)
		}
		switch what {
		case turn:
			silence++
		case heard, answered:
			silence = 0
		}
		l = append(l, what)
	}
	return l
}

// At first there are no misses: what was there ahead of a row would count as well.
func TestP15_8TheLivingAreNot(t *testing.T) {
	d, asks := newDice(158), 0
	for i := range 200 {
		h := in(i%2, d.half())
		row := d.living(3000)
		x, told := Play(h, row)
		if isZero(x) || slices.Contains(told, api.TkDrop) {
			t.Fatalf("%+v is dropped", h)
		}
		if n := countOf(row, turn); n != len(told) || countOf(told, api.TkAsk) != n {
			t.Fatalf("%d turns told %d", n, len(told))
		}
		if !half.Fit(id, x) || !slices.Equal(x.Lines, h.Lines) || x.Peer != h.Peer || x.Boot != h.Boot || x.Life != h.Life {
			t.Fatalf("%+v, was %+v", x, h)
		}
		asks += len(told)
	}
	if asks < 100000 {
		t.Errorf("%d turns", asks)
	}
}

func countOf(l []int, what int) int {
	n := 0
	for _, x := range l {
		if x == what {
			n++
		}
	}
	return n
}

// From whatever state, if something is heard ahead of the first turn; and with as few as there may be.
func TestP15_8JustOften(t *testing.T) {
	for _, h := range fitOnes {
		for _, hears := range []int{heard, answered} {
			row := slices.Repeat([]int{hears, turn, turn}, 2000)
			if x, told := Play(h, row); isZero(x) || slices.Contains(told, api.TkDrop) || len(told) != 4000 {
				t.Fatalf("%+v: %+v, %d told", h, x, len(told))
			}
			row = slices.Repeat([]int{asked, hears, asked, turn, asked, turn, asked}, 2000)
			if x, told := Play(h, row); isZero(x) || slices.Contains(told, api.TkDrop) || len(told) != 4000 {
				t.Fatalf("%+v, asked as well: %+v, %d told", h, x, len(told))
			}
		}
	}
}

// Heard but ahead of every fourth turn it is dropped; the Answer gives one turn more, the one that asks anew.
func TestP15_8NotOftenEnough(t *testing.T) {
	for _, h := range fitOnes {
		row := slices.Repeat([]int{heard, turn, turn, turn, turn}, 3)
		if x, told := Play(in(1, h), row); !isZero(x) || !slices.Equal(told, []int{1, 1, 2}) {
			t.Errorf("heard: %+v, %v", x, told)
		}
		row = slices.Repeat([]int{answered, turn, turn, turn}, 300)
		if x, told := Play(h, row); isZero(x) || slices.Contains(told, api.TkDrop) {
			t.Errorf("answered, three turns: %+v, %v", x, told)
		}
		row = slices.Repeat([]int{answered, turn, turn, turn, turn}, 3)
		if x, told := Play(h, row); !isZero(x) || !slices.Equal(told, []int{1, 1, 1, 2}) {
			t.Errorf("answered, four turns: %+v, %v", x, told)
		}
	}
}

// pendingBehind tells by looking back over a row, from a fresh half-edge on, whether an ask is pending behind it.
func pendingBehind(row []int) bool {
	for _, what := range slices.Backward(row) {
		switch what {
		case turn, asked:
			return true
		case answered:
			return false
		}
	}
	return false
}

// found is how many turns found an ask pending, at the end of a row, with nothing heard between.
func found(row []int) int {
	n := 0
	for i, what := range slices.Backward(row) {
		if what == heard || what == answered {
			break
		}
		if what == turn && pendingBehind(row[:i]) {
			n++
		}
	}
	return n
}

// sayDrop says behind how many of a row the drop comes; 0: it doesn't.
func sayDrop(row []int) int {
	for n := 1; n <= len(row); n++ {
		if row[n-1] == turn && found(row[:n]) == 3 {
			return n
		}
	}
	return 0
}

// dropsAt holds a row to where the drop comes, from a fresh half-edge on.
func dropsAt(t *testing.T, row []int) int {
	t.Helper()
	at := sayDrop(row)
	for n := range len(row) + 1 {
		x, told := Play(fresh(), row[:n])
		is := slices.Contains(told, api.TkDrop)
		if is != (at > 0 && n >= at) || is != isZero(x) {
			t.Fatalf("%v: dropped behind %d: %v; it must be behind %d (0: never)", row, n, is, at)
		}
		if !is && (x.Misses != found(row[:n]) || x.Pending != pendingBehind(row[:n])) {
			t.Fatalf("%v: %+v", row[:n], x)
		}
	}
	return at
}

func TestP15_9WhereADropComes(t *testing.T) {
	drops, stays := 0, 0
	for row := range rows(5, 6) {
		if dropsAt(t, row) > 0 {
			drops++
		} else {
			stays++
		}
	}
	if drops < 100 || stays < 1000 {
		t.Errorf("%d drops, %d stay", drops, stays)
	}
	d, places := newDice(159), map[int]int{}
	for range 5000 {
		places[dropsAt(t, d.row(30))]++
	}
	for _, at := range []int{0, 4, 5, 6, 10, 12} {
		if places[at] < 20 {
			t.Errorf("drops behind %v", places)
		}
	}
}

// From a half-edge that has misses already it comes as many turns sooner.
func TestP15_9WithMissesAtFirst(t *testing.T) {
	for state := range dropped {
		ahead := turns(state)
		for row := range rows(4, 5) {
			all := slices.Concat(ahead, row)
			x, told := Play(in(state, fresh()), row)
			want, tells := Play(fresh(), all)
			if !same(x, want) || !slices.Equal(told, tells[state:]) || slices.Contains(told, api.TkDrop) != (sayDrop(all) > 0) {
				t.Fatalf("state %d, %v: %+v, %v, want %+v, %v", state, row, x, told, want, tells)
			}
		}
	}
}
