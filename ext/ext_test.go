package ext

import (
	"math"
	"testing"

	"eddy/api"
)

func TestP16_1Fit(t *testing.T) {
	for _, c := range []struct {
		name string
		e    api.Ext
		fit  bool
	}{
		{"none", none, true},
		{"none with a Value", api.Ext{Value: 1}, false},
		{"none with a Value below 0", api.Ext{Value: -1}, false},
		{"none with an Origin", api.Ext{Origin: 1}, false},
		{"none with an Age", api.Ext{Age: 1}, false},
		{"none with all of them", api.Ext{Value: 5, Origin: 2, Age: 3}, false},
		{"there, and all else is 0", of(0, 0, 0), true},
		{"an ordinary one", of(5, 2, 3), true},
		{"the least Value", of(-most, 2, 3), true},
		{"one below the least Value", of(-most-1, 2, 3), false},
		{"the greatest Value", of(most, 2, 3), true},
		{"one above the greatest Value", of(most+1, 2, 3), false},
		{"the least Origin", of(5, 0, 3), true},
		{"one below the least Origin", of(5, -1, 3), false},
		{"the greatest Origin", of(5, 15, 3), true},
		{"one above the greatest Origin", of(5, 16, 3), false},
		{"an Age of 0", of(5, 2, 0), true},
		{"an Age of -1", of(5, 2, -1), false},
		{"an Age of MaxAge - 1", of(5, 2, api.MaxAge-1), true},
		{"an Age of MaxAge", of(5, 2, api.MaxAge), false},
		{"an Age far above", of(5, 2, math.MaxInt64), false},
	} {
		if Fit(c.e) != c.fit {
			t.Errorf("%s: Fit(%+v): %v", c.name, c.e, !c.fit)
		}
	}
}

func TestP16_1FitOfAll(t *testing.T) {
	seen := map[bool]int{}
	for _, has := range []bool{false, true} {
		for _, e := range all(has, values(), origins(), ages()) {
			seen[Fit(e)]++
			if Fit(e) != sayFit(e) {
				t.Errorf("Fit(%+v): %v", e, Fit(e))
			}
		}
	}
	if seen[true] < 100 || seen[false] < 100 {
		t.Errorf("fit: %v", seen)
	}
}

func TestP16_2Own(t *testing.T) {
	if e := Own(3, -7); e != of(-7, 3, 0) {
		t.Errorf("Own(3, -7): %+v", e)
	}
	for id := range api.MaxNodes {
		for _, v := range inputs() {
			if e := Own(id, v); e != of(v, id, 0) || !Fit(e) {
				t.Errorf("Own(%d, %d): %+v", id, v, e)
			}
		}
	}
}

func TestP16_3LeastAndGreatest(t *testing.T) {
	for _, c := range []struct {
		name                  string
		a, b, least, greatest api.Ext
	}{
		{"none and none", none, none, none, none},
		{"none and one", none, of(5, 2, 3), of(5, 2, 3), of(5, 2, 3)},
		{"none and one above 0", none, of(1, 1, 1), of(1, 1, 1), of(1, 1, 1)},
		{"none and one below 0", none, of(-1, 1, 1), of(-1, 1, 1), of(-1, 1, 1)},
		{"none and the one of zeros", none, of(0, 0, 0), of(0, 0, 0), of(0, 0, 0)},
		{"none and an old one", none, of(0, 15, 63), of(0, 15, 63), of(0, 15, 63)},
		{"unlike Values", of(5, 2, 3), of(7, 1, 9), of(5, 2, 3), of(7, 1, 9)},
		{"unlike Values, the older one is lesser", of(5, 9, 63), of(6, 1, 0), of(5, 9, 63), of(6, 1, 0)},
		{"unlike Values, of two signs", of(-5, 9, 63), of(4, 1, 0), of(-5, 9, 63), of(4, 1, 0)},
		{"Values at the ends", of(-most, 15, 63), of(most, 15, 63), of(-most, 15, 63), of(most, 15, 63)},
		{"example 1: one Value, unlike Ages", of(5, 2, 3), of(5, 1, 4), of(5, 2, 3), of(5, 2, 3)},
		{"one Value, Ages at the ends", of(5, 15, 0), of(5, 0, 63), of(5, 15, 0), of(5, 15, 0)},
		{"one Value below 0, unlike Ages", of(-5, 2, 3), of(-5, 1, 4), of(-5, 2, 3), of(-5, 2, 3)},
		{"one Value and one Age", of(5, 2, 3), of(5, 1, 3), of(5, 1, 3), of(5, 1, 3)},
		{"one Value and one Age, Origins at the ends", of(5, 0, 3), of(5, 15, 3), of(5, 0, 3), of(5, 0, 3)},
		{"the same", of(5, 2, 3), of(5, 2, 3), of(5, 2, 3), of(5, 2, 3)},
	} {
		if x, y := Least(c.a, c.b), Least(c.b, c.a); x != c.least || y != c.least {
			t.Errorf("%s: Least %+v, and the other way round %+v, want %+v", c.name, x, y, c.least)
		}
		if x, y := Greatest(c.a, c.b), Greatest(c.b, c.a); x != c.greatest || y != c.greatest {
			t.Errorf("%s: Greatest %+v, and the other way round %+v, want %+v", c.name, x, y, c.greatest)
		}
	}
}

// holds holds both calls to the document's words for two values.
func holds(t *testing.T, a, b api.Ext) {
	t.Helper()
	if x, want := Least(a, b), sayHolds(false, a, b); x != want {
		t.Fatalf("Least(%+v, %+v): %+v, want %+v", a, b, x, want)
	}
	if x, want := Greatest(a, b), sayHolds(true, a, b); x != want {
		t.Fatalf("Greatest(%+v, %+v): %+v, want %+v", a, b, x, want)
	}
}

func TestP16_3OfAllTwo(t *testing.T) {
	for _, a := range fitOnes() {
		for _, b := range fitOnes() {
			holds(t, a, b)
		}
	}
	d := newDice(163)
	for range 100000 {
		holds(t, d.fit(), d.fit())
		holds(t, d.near(), d.near())
	}
}

func TestP16_4Older(t *testing.T) {
	if e := Older(none); e != none {
		t.Errorf("Older of none: %+v", e)
	}
	for _, v := range inputs() {
		for id := range api.MaxNodes {
			for age := range api.MaxAge - 1 {
				if e := Older(of(v, id, age)); e != of(v, id, age+1) || !Fit(e) {
					t.Errorf("Older of age %d: %+v", age, e)
				}
			}
			if e := Older(of(v, id, 63)); e != none {
				t.Errorf("Older of age 63: %+v", e)
			}
		}
	}
	if a, b := Older(of(1, 1, 0)), Older(of(1, 1, 62)); a != of(1, 1, 1) || b != of(1, 1, 63) {
		t.Errorf("%+v, %+v", a, b)
	}
}

func TestP16_5Tick(t *testing.T) {
	for _, c := range []struct {
		name            string
		has             bool
		input           int64
		least, greatest api.Ext
		low, high       api.Ext
	}{
		{"example 2", true, 5, of(3, 2, 0), of(9, 4, 63), of(5, 2, 0), of(5, 2, 0)},
		{"no input, one of its own, one of others", false, 0, of(3, 2, 0), of(9, 4, 5), none, of(9, 4, 6)},
		{"no input, what is told as one plays no part", false, 5, none, of(4, 4, 5), none, of(4, 4, 6)},
		{"no input, none", false, 0, none, none, none, none},
		{"no input, of others", false, 0, of(-3, 1, 62), of(9, 4, 0), of(-3, 1, 63), of(9, 4, 1)},
		{"no input, of others that are too old", false, 0, of(-3, 1, 63), of(9, 4, 63), none, none},
		{"none", true, 5, none, none, of(5, 2, 0), of(5, 2, 0)},
		{"of others, more extreme", true, 5, of(3, 1, 7), of(9, 4, 8), of(3, 1, 8), of(9, 4, 9)},
		{"of others, less extreme", true, 5, of(6, 1, 7), of(4, 4, 8), of(5, 2, 0), of(5, 2, 0)},
		{"of others, the same Value", true, 5, of(5, 1, 0), of(5, 1, 0), of(5, 2, 0), of(5, 2, 0)},
		{"of its own, more extreme: the input was another one", true, 5, of(-9, 2, 0), of(90, 2, 0), of(5, 2, 0), of(5, 2, 0)},
		{"of its own, the same Value", true, 5, of(5, 2, 0), of(5, 2, 40), of(5, 2, 0), of(5, 2, 0)},
		{"the least input", true, -most, of(1-most, 1, 0), of(1-most, 1, 0), of(-most, 2, 0), of(1-most, 1, 1)},
		{"the greatest input", true, most, of(most-1, 1, 0), of(most-1, 1, 0), of(most-1, 1, 1), of(most, 2, 0)},
		{"an input of 0", true, 0, of(1, 1, 0), of(-1, 1, 0), of(0, 2, 0), of(0, 2, 0)},
	} {
		if a, b := Tick(2, c.has, c.input, c.least, c.greatest); a != c.low || b != c.high {
			t.Errorf("%s: %+v, %+v, want %+v, %+v", c.name, a, b, c.low, c.high)
		}
	}
}

// ticks holds Tick to the document's words.
func ticks(t *testing.T, id int, has bool, input int64, least, greatest api.Ext) {
	t.Helper()
	a, b := Tick(id, has, input, least, greatest)
	low, high := sayTick(false, id, has, input, least), sayTick(true, id, has, input, greatest)
	if a != low || b != high || !Fit(a) || !Fit(b) {
		t.Fatalf("Tick(%d, %v, %d, %+v, %+v): %+v, %+v, want %+v, %+v", id, has, input, least, greatest, a, b, low, high)
	}
}

func TestP16_5OfAll(t *testing.T) {
	for _, id := range nodes() {
		for _, least := range fitOnes() {
			for _, greatest := range fitOnes() {
				ticks(t, id, false, 0, least, greatest)
				for _, input := range inputs() {
					ticks(t, id, true, input, least, greatest)
				}
			}
		}
	}
	d := newDice(165)
	for range 100000 {
		ticks(t, d.node(), d.Intn(2) == 0, d.value(), d.fit(), d.fit())
		ticks(t, d.Intn(3), d.Intn(2) == 0, d.Int63n(3)-1, d.near(), d.near())
	}
}

func TestP16_6Hear(t *testing.T) {
	for _, c := range []struct {
		name                    string
		least, greatest         api.Ext
		toldLeast, toldGreatest api.Ext
		low, high               api.Ext
	}{
		{"example 2", none, none, of(1, 2, 5), of(8, 3, 5), none, of(8, 3, 5)},
		{"none, and nothing is told", none, none, none, none, none, none},
		{"nothing is told", of(1, 1, 5), of(2, 3, 6), none, none, of(1, 1, 5), of(2, 3, 6)},
		{"none, and of others", none, none, of(-4, 1, 63), of(-5, 15, 0), of(-4, 1, 63), of(-5, 15, 0)},
		{"of its own, less extreme than what others have", of(5, 2, 0), of(5, 2, 0), of(4, 1, 63), of(6, 3, 63), of(4, 1, 63), of(6, 3, 63)},
		{"of its own, and more so", of(5, 2, 0), of(5, 2, 0), of(6, 1, 0), of(4, 3, 0), of(5, 2, 0), of(5, 2, 0)},
		{"what was its own comes back", of(5, 2, 0), of(5, 2, 0), of(-4, 2, 0), of(90, 2, 7), of(5, 2, 0), of(5, 2, 0)},
		{"the same of others, younger", of(1, 1, 9), of(8, 3, 9), of(1, 1, 8), of(8, 3, 8), of(1, 1, 8), of(8, 3, 8)},
		{"the same of others, older", of(1, 1, 9), of(8, 3, 9), of(1, 1, 10), of(8, 3, 10), of(1, 1, 9), of(8, 3, 9)},
		{"one Value and Age of two others", of(1, 5, 9), of(8, 3, 9), of(1, 4, 9), of(8, 4, 9), of(1, 4, 9), of(8, 3, 9)},
		{"what is told of the least plays no part for the greatest", of(1, 1, 0), of(1, 1, 0), of(3, 3, 0), none, of(1, 1, 0), of(1, 1, 0)},
		{"and what is told of the greatest none for the least", of(1, 1, 0), of(1, 1, 0), none, of(-3, 3, 0), of(1, 1, 0), of(1, 1, 0)},
	} {
		if a, b := Hear(2, c.least, c.greatest, c.toldLeast, c.toldGreatest); a != c.low || b != c.high {
			t.Errorf("%s: %+v, %+v, want %+v, %+v", c.name, a, b, c.low, c.high)
		}
	}
}

// Node 0 has the number that stands in none as well: what it holds is not gone by a peer that tells none.
func TestP16_6NodeNought(t *testing.T) {
	for _, told := range []api.Ext{none, of(-9, 0, 3), of(9, 0, 0)} {
		if a, b := Hear(0, of(5, 0, 0), of(7, 3, 4), told, told); a != of(5, 0, 0) || b != of(7, 3, 4) {
			t.Errorf("%+v is told: %+v, %+v", told, a, b)
		}
		if a, b := Hear(0, none, none, told, told); a != none || b != none {
			t.Errorf("%+v is told to none: %+v, %+v", told, a, b)
		}
	}
	if a, b := Hear(1, none, none, of(-9, 0, 3), of(9, 0, 0)); a != of(-9, 0, 3) || b != of(9, 0, 0) {
		t.Errorf("%+v, %+v", a, b)
	}
}

// hears holds Hear to the document's words.
func hears(t *testing.T, id int, least, greatest, toldLeast, toldGreatest api.Ext) {
	t.Helper()
	a, b := Hear(id, least, greatest, toldLeast, toldGreatest)
	low, high := sayHear(false, id, least, toldLeast), sayHear(true, id, greatest, toldGreatest)
	if a != low || b != high || !Fit(a) || !Fit(b) {
		t.Fatalf("Hear(%d, %+v, %+v, %+v, %+v): %+v, %+v, want %+v, %+v", id, least, greatest, toldLeast, toldGreatest, a, b, low, high)
	}
}

func TestP16_6OfAll(t *testing.T) {
	l := fitOnes()
	for _, id := range nodes() {
		for i, e := range l {
			for j, told := range l {
				hears(t, id, e, l[(i+7)%len(l)], told, l[(j+29)%len(l)])
				hears(t, id, l[(i+7)%len(l)], e, l[(j+29)%len(l)], told)
			}
		}
	}
	d := newDice(166)
	for range 200000 {
		hears(t, d.node(), d.fit(), d.fit(), d.fit(), d.fit())
		hears(t, d.Intn(3), d.near(), d.near(), d.near(), d.near())
	}
}

func TestP16_7Set(t *testing.T) {
	for _, c := range []struct {
		name            string
		input           int64
		least, greatest api.Ext
		low, high       api.Ext
	}{
		{"none", 4, none, none, of(4, 2, 0), of(4, 2, 0)},
		{"of its own and of others", 4, of(3, 2, 7), of(2, 1, 7), of(4, 2, 0), of(4, 2, 0)},
		{"of its own, more extreme", 4, of(-9, 2, 0), of(9, 2, 0), of(4, 2, 0), of(4, 2, 0)},
		{"of its own, the same Value", 4, of(4, 2, 63), of(4, 2, 0), of(4, 2, 0), of(4, 2, 0)},
		{"of others, more extreme, they grow no older", 4, of(3, 1, 63), of(5, 1, 7), of(3, 1, 63), of(5, 1, 7)},
		{"of others, less extreme", 4, of(5, 1, 0), of(3, 1, 0), of(4, 2, 0), of(4, 2, 0)},
		{"of others, the same Value and Age, a lesser Origin", 4, of(4, 1, 0), of(4, 1, 0), of(4, 1, 0), of(4, 1, 0)},
		{"of others, the same Value and Age, a greater Origin", 4, of(4, 3, 0), of(4, 3, 0), of(4, 2, 0), of(4, 2, 0)},
		{"of others, the same Value, older", 4, of(4, 1, 1), of(4, 1, 1), of(4, 2, 0), of(4, 2, 0)},
		{"the least input", -most, of(1-most, 1, 0), of(1-most, 1, 0), of(-most, 2, 0), of(1-most, 1, 0)},
		{"the greatest input", most, of(most-1, 1, 0), of(most-1, 1, 0), of(most-1, 1, 0), of(most, 2, 0)},
		{"an input of 0", 0, of(1, 1, 0), of(-1, 1, 0), of(0, 2, 0), of(0, 2, 0)},
	} {
		if a, b := Set(2, c.input, c.least, c.greatest); a != c.low || b != c.high {
			t.Errorf("%s: %+v, %+v, want %+v, %+v", c.name, a, b, c.low, c.high)
		}
	}
}

// sets holds Set to the document's words.
func sets(t *testing.T, id int, input int64, least, greatest api.Ext) {
	t.Helper()
	a, b := Set(id, input, least, greatest)
	low, high := saySet(false, id, input, least), saySet(true, id, input, greatest)
	if a != low || b != high || !Fit(a) || !Fit(b) {
		t.Fatalf("Set(%d, %d, %+v, %+v): %+v, %+v, want %+v, %+v", id, input, least, greatest, a, b, low, high)
	}
}

func TestP16_7OfAll(t *testing.T) {
	for _, id := range nodes() {
		for _, least := range fitOnes() {
			for _, greatest := range fitOnes() {
				for _, input := range inputs() {
					sets(t, id, input, least, greatest)
				}
			}
		}
	}
	d := newDice(167)
	for range 100000 {
		sets(t, d.node(), d.value(), d.fit(), d.fit())
		sets(t, d.Intn(3), d.Int63n(3)-1, d.near(), d.near())
	}
}

// Every call ends and none panics, at all arguments.
func TestNothingPanics(t *testing.T) {
	d := newDice(1)
	number := func() int64 { return values()[d.Intn(len(values()))] }
	unfit := func() api.Ext {
		return api.Ext{Has: d.Intn(2) == 0, Value: number(), Origin: origins()[d.Intn(len(origins()))], Age: ages()[d.Intn(len(ages()))]}
	}
	for range 50000 {
		id, has, input := origins()[d.Intn(len(origins()))], d.Intn(2) == 0, number()
		a, b, c, e := unfit(), unfit(), unfit(), unfit()
		Fit(a)
		Own(id, input)
		Least(a, b)
		Greatest(a, b)
		Older(a)
		Tick(id, has, input, a, b)
		Hear(id, a, b, c, e)
		Set(id, input, a, b)
	}
}
