package ext

import (
	"math"
	"math/rand"
	"testing"

	"eddy/api"
)

const most = int64(2147483647) // the greatest value

var none = api.Ext{}

// of is a value that is there, as the document's examples write it.
func of(value int64, origin int, age int64) api.Ext {
	return api.Ext{Has: true, Value: value, Origin: origin, Age: age}
}

// values, origins and ages are numbers at and around the ends of their ranges, and some between.
func values() []int64 {
	return []int64{math.MinInt64, math.MinInt64 + 1, -1 << 32, -most - 2, -most - 1, -most, 1 - most, -7, -1, 0, 1, 5, 7, most - 1, most, most + 1, most + 2, 1 << 32, math.MaxInt64}
}

func origins() []int {
	return []int{math.MinInt, -1 << 32, -16, -2, -1, 0, 1, 2, 14, 15, 16, 17, 1 << 32, math.MaxInt}
}

func ages() []int64 {
	return []int64{math.MinInt64, -1 << 32, -64, -2, -1, 0, 1, 2, 31, 62, 63, 64, 65, 1 << 32, math.MaxInt64}
}

// all are the values that these numbers make.
func all(has bool, values []int64, origins []int, ages []int64) []api.Ext {
	var l []api.Ext
	for _, v := range values {
		for _, o := range origins {
			for _, a := range ages {
				l = append(l, api.Ext{Has: has, Value: v, Origin: o, Age: a})
			}
		}
	}
	return l
}

// fitOnes are none, and values that are there at the edges of what is fit, many of one Value, of one Age, of one Origin.
func fitOnes() []api.Ext {
	return append(all(true, []int64{-most, -7, 0, 5, most}, []int{0, 2, 15}, []int64{0, 1, 62, 63}), none)
}

// nodes and inputs are those that the tests go by.
func nodes() []int { return []int{0, 1, 2, 14, 15} }

func inputs() []int64 { return []int64{-most, 1 - most, -7, -1, 0, 1, 5, most - 1, most} }

// sayFit says by the document's words what is fit: all that must hold is asked one after the other.
func sayFit(e api.Ext) bool {
	switch {
	case !e.Has:
		return e.Value == 0 && e.Origin == 0 && e.Age == 0
	case e.Value < -2147483647, e.Value > 2147483647:
		return false
	case e.Origin < 0, e.Origin > 15:
		return false
	}
	return !(e.Age < 0) && !(e.Age > 63)
}

// sayBeats says by the document's words whether the first of two that are there holds against the other one.
func sayBeats(greatest bool, a, b api.Ext) bool {
	switch {
	case a.Value != b.Value && greatest:
		return a.Value > b.Value
	case a.Value != b.Value:
		return a.Value < b.Value
	case a.Age != b.Age:
		return a.Age < b.Age
	}
	return a.Origin < b.Origin
}

// sayHolds says which one of a list holds: the one that is there and is beaten by nobody.
func sayHolds(greatest bool, l ...api.Ext) api.Ext {
candidates:
	for _, x := range l {
		if !x.Has {
			continue
		}
		for _, y := range l {
			if y.Has && sayBeats(greatest, y, x) {
				continue candidates
			}
		}
		return x
	}
	return none
}

// sayTick says what one of the two values is a tick later: all that may hold is gathered.
func sayTick(greatest bool, id int, has bool, input int64, e api.Ext) api.Ext {
	var l []api.Ext
	if e.Has && e.Origin != id && e.Age < 63 {
		l = append(l, of(e.Value, e.Origin, e.Age+1))
	}
	if has {
		l = append(l, of(input, id, 0))
	}
	return sayHolds(greatest, l...)
}

// sayHear says what one of the two values is behind what was told.
func sayHear(greatest bool, id int, e, told api.Ext) api.Ext {
	if told.Origin == id {
		return e
	}
	return sayHolds(greatest, e, told)
}

// saySet says what one of the two values is behind a new input.
func saySet(greatest bool, id int, input int64, e api.Ext) api.Ext {
	if e.Origin == id {
		return of(input, id, 0)
	}
	return sayHolds(greatest, e, of(input, id, 0))
}

// dice draws values, by a fixed seed.
type dice struct{ *rand.Rand }

func newDice(seed int64) dice { return dice{rand.New(rand.NewSource(seed))} }

// value is one of few, so that many are alike, or one of the whole range.
func (d dice) value() int64 {
	if d.Intn(3) > 0 {
		return d.Int63n(5) - 2
	}
	return d.Int63n(2*most+1) - most
}

func (d dice) node() int { return d.Intn(api.MaxNodes) }

// fit is a fit one, here and there none.
func (d dice) fit() api.Ext {
	if d.Intn(8) == 0 {
		return none
	}
	return of(d.value(), d.node(), d.Int63n(64))
}

// near is a fit one of few numbers, so that of two often all but one part are alike.
func (d dice) near() api.Ext {
	if d.Intn(8) == 0 {
		return none
	}
	return of(d.Int63n(3)-1, d.Intn(3), 61+d.Int63n(3))
}

// What the tests go by is fit, and of all kinds, or they would say little.
func TestModelsAreFit(t *testing.T) {
	for _, e := range fitOnes() {
		if !sayFit(e) {
			t.Errorf("%+v", e)
		}
	}
	d, there := newDice(16), map[bool]int{}
	for range 5000 {
		a, b := d.fit(), d.near()
		if !sayFit(a) || !sayFit(b) {
			t.Fatalf("%+v, %+v", a, b)
		}
		there[a.Has]++
		there[b.Has]++
	}
	if there[false] < 500 || there[true] < 5000 {
		t.Errorf("there: %v", there)
	}
	if api.MaxAge != 64 || api.MaxNodes != 16 || api.MaxFlow != most {
		t.Error("the limits are others than the document's")
	}
}
