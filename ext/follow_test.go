package ext

import (
	"slices"
	"testing"

	"eddy/api"
)

// kinds are the two calls that tell which one holds.
func kinds() map[string]func(a, b api.Ext) api.Ext {
	return map[string]func(a, b api.Ext) api.Ext{"Least": Least, "Greatest": Greatest}
}

// grouped holds a call to what must not play a part for three values: their order, and their grouping.
func grouped(t *testing.T, name string, call func(a, b api.Ext) api.Ext, a, b, c api.Ext) {
	t.Helper()
	if x, y := call(a, b), call(b, a); x != y || x != a && x != b {
		t.Fatalf("%s of %+v, %+v: %+v, and the other way round %+v", name, a, b, x, y)
	}
	want := sayHolds(name == "Greatest", a, b, c)
	if x, y := call(call(a, b), c), call(a, call(b, c)); x != want || y != want {
		t.Fatalf("%s of %+v, %+v, %+v: %+v or %+v, want %+v", name, a, b, c, x, y, want)
	}
}

func TestP16_8OrderAndGrouping(t *testing.T) {
	for name, call := range kinds() {
		for _, a := range fitOnes() {
			if call(a, a) != a || call(a, none) != a || call(none, a) != a {
				t.Errorf("%s of %+v with itself, or with none", name, a)
			}
			for _, b := range fitOnes() {
				for _, c := range fitOnes() {
					grouped(t, name, call, a, b, c)
				}
			}
		}
		d := newDice(168)
		for range 100000 {
			grouped(t, name, call, d.fit(), d.fit(), d.fit())
			grouped(t, name, call, d.near(), d.near(), d.near())
		}
	}
}

// Whatever the way in which many are put together, the same one holds.
func TestP16_8OfMany(t *testing.T) {
	d := newDice(1682)
	for name, call := range kinds() {
		for range 2000 {
			l := make([]api.Ext, 1+d.Intn(12))
			for i := range l {
				l[i] = d.near()
			}
			want := sayHolds(name == "Greatest", l...)
			was := slices.Clone(l)
			for len(l) > 1 { // two of them, drawn, make one
				d.Shuffle(len(l), func(i, j int) { l[i], l[j] = l[j], l[i] })
				l[1] = call(l[0], l[1])
				l = l[1:]
			}
			if l[0] != want {
				t.Fatalf("%s of %+v: %+v, want %+v", name, was, l[0], want)
			}
		}
	}
}

func TestP16_9Olders(t *testing.T) {
	for _, first := range append(fitOnes(), of(5, 2, 30)) {
		e := first
		for n := int64(0); n <= api.MaxAge; n++ {
			if there := first.Has && first.Age+n < 64; e.Has != there || !there && e != none {
				t.Fatalf("%+v behind %d Olders: %+v", first, n, e)
			}
			if e.Has && e != of(first.Value, first.Origin, first.Age+n) {
				t.Fatalf("%+v behind %d Olders: %+v", first, n, e)
			}
			e = Older(e)
		}
		if e != none {
			t.Fatalf("%+v: %+v", first, e)
		}
	}
}

// With an input that is less extreme, and with none: the values of others are there just as long as they are young enough.
func TestP16_9Ticks(t *testing.T) {
	for _, has := range []bool{false, true} {
		for age := range api.MaxAge {
			least, greatest := of(-7, 3, age), of(most, 15, 63-age)
			for n := int64(1); n <= api.MaxAge; n++ {
				least, greatest = Tick(2, has, 5, least, greatest)
				wantLow, wantHigh := of(-7, 3, age+n), of(most, 15, 63-age+n)
				own := none
				if has {
					own = of(5, 2, 0)
				}
				if age+n >= 64 {
					wantLow = own
				}
				if 63-age+n >= 64 {
					wantHigh = own
				}
				if least != wantLow || greatest != wantHigh {
					t.Fatalf("behind %d Ticks: %+v, %+v, want %+v, %+v", n, least, greatest, wantLow, wantHigh)
				}
			}
			if least.Has && least.Origin != 2 || greatest.Has && greatest.Origin != 2 {
				t.Fatalf("behind MaxAge Ticks: %+v, %+v", least, greatest)
			}
		}
	}
}

// Whatever is told of others meanwhile: behind MaxAge Ticks nothing is left of who is never told anew.
func TestP16_9NeverToldAnew(t *testing.T) {
	d, kept := newDice(169), 0
	for range 500 {
		id, gone := 2, 3+d.Intn(4)
		least, greatest := of(-most, gone, 0), of(most, gone, 0)
		for n := range api.MaxAge {
			if n == 63 && least.Origin == gone && greatest.Origin == gone {
				kept++
			}
			for range d.Intn(3) {
				low, high := d.fit(), d.fit()
				if low.Origin != gone && high.Origin != gone {
					least, greatest = Hear(id, least, greatest, low, high)
				}
			}
			if d.Intn(9) == 0 {
				least, greatest = Set(id, d.value(), least, greatest)
			}
			least, greatest = Tick(id, d.Intn(2) == 0, d.value(), least, greatest)
		}
		if least.Has && least.Origin == gone || greatest.Has && greatest.Origin == gone {
			t.Fatalf("%d is gone: %+v, %+v", gone, least, greatest)
		}
	}
	if kept < 400 {
		t.Errorf("one Tick ahead of the end %d of 500 are left", kept)
	}
}

// hold holds what a call answers to where it may be from: as it was, or as it was told.
func hold(t *testing.T, was, told, is api.Ext) {
	t.Helper()
	if is != was && is != told {
		t.Fatalf("%+v, told %+v: %+v", was, told, is)
	}
	if is != was && is.Age < told.Age {
		t.Fatalf("%+v was told, and is %+v", told, is)
	}
}

func TestP16_9HearMakesNothingYounger(t *testing.T) {
	for _, id := range nodes() {
		for _, e := range fitOnes() {
			for _, told := range fitOnes() {
				least, greatest := Hear(id, e, e, told, told)
				hold(t, e, told, least)
				hold(t, e, told, greatest)
			}
		}
	}
	d := newDice(1692)
	for range 50000 {
		a, b, c, e := d.near(), d.near(), d.near(), d.near()
		least, greatest := Hear(d.Intn(4), a, b, c, e)
		hold(t, a, c, least)
		hold(t, b, e, greatest)
	}
}

func TestP16_10AnInputHasValues(t *testing.T) {
	has := func(id int, input int64, least, greatest api.Ext) {
		low, high := Tick(id, true, input, least, greatest)
		if !low.Has || !high.Has || low.Value > input || high.Value < input || !Fit(low) || !Fit(high) {
			t.Fatalf("Tick(%d, true, %d, %+v, %+v): %+v, %+v", id, input, least, greatest, low, high)
		}
	}
	for _, id := range nodes() {
		for _, least := range fitOnes() {
			for _, greatest := range fitOnes() {
				for _, input := range inputs() {
					has(id, input, least, greatest)
				}
			}
		}
	}
	d := newDice(1610)
	for range 50000 {
		has(d.node(), d.value(), d.fit(), d.fit())
	}
}

// spot is a node of a ring that tells its neighbours what it holds.
type spot struct {
	up              bool
	input           int64
	least, greatest api.Ext
}

// round is one: each that is up ticks, and then tells its two neighbours.
func round(ring []spot) {
	for i := range ring {
		if s := &ring[i]; s.up {
			s.least, s.greatest = Tick(i, true, s.input, s.least, s.greatest)
		}
	}
	for i, s := range slices.Clone(ring) { // all tell at once
		for _, j := range []int{(i + 1) % len(ring), (i + len(ring) - 1) % len(ring)} {
			if to := &ring[j]; s.up && to.up {
				to.least, to.greatest = Hear(j, to.least, to.greatest, s.least, s.greatest)
			}
		}
	}
}

// knows holds all that are up to the least and the greatest input of them.
func knows(t *testing.T, ring []spot) {
	t.Helper()
	var up []int64
	for _, s := range ring {
		if s.up {
			up = append(up, s.input)
		}
	}
	for i, s := range ring {
		if s.up && (s.least.Value != slices.Min(up) || s.greatest.Value != slices.Max(up) || !Fit(s.least) || !Fit(s.greatest)) {
			t.Fatalf("%d has %+v, %+v; the inputs are %v", i, s.least, s.greatest, up)
		}
	}
}

// A ring in which nobody knows all the others: values go round, and those of who is gone, or of an input that was set
// otherwise, go out within MaxAge + 1 rounds, however often they are told on. What they hid goes round from then on.
func TestP16_9ARingForgets(t *testing.T) {
	ring := make([]spot, api.MaxNodes)
	for i := range ring {
		ring[i] = spot{up: true, input: int64(10 + i)}
	}
	ring[3].input, ring[8].input, ring[9].input = -50, 90, 80
	rounds := func(n int) {
		for range n {
			round(ring)
		}
	}
	forgotten := func(value int64) {
		t.Helper()
		for i, s := range ring {
			if s.least.Value == value || s.greatest.Value == value {
				t.Fatalf("%d has %+v, %+v", i, s.least, s.greatest)
			}
		}
	}
	rounds(len(ring))
	knows(t, ring)
	ring[3] = spot{}
	rounds(int(api.MaxAge) + 1)
	forgotten(-50)
	rounds(len(ring))
	knows(t, ring)
	ring[8].input = 40
	ring[8].least, ring[8].greatest = Set(8, 40, ring[8].least, ring[8].greatest)
	rounds(int(api.MaxAge) + 1)
	forgotten(90)
	rounds(len(ring))
	knows(t, ring)
	if e := ring[0].greatest; e != of(80, 9, 6) { // it comes from 9 over 10 to 15, a round each
		t.Errorf("the greatest at 0 is %+v", e)
	}
}
