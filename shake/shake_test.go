package shake

import (
	"math"
	"slices"
	"testing"

	"eddy/api"
)

func TestP14_1Later(t *testing.T) {
	for _, c := range []struct {
		boot, life, otherBoot, otherLife int64
		want                             bool
	}{
		{3, 0, 2, 9, true}, {2, 5, 2, 4, true}, {2, 4, 2, 4, false}, // example 1
		{2, 9, 3, 0, false}, {2, 4, 2, 5, false}, {3, 4, 2, 4, true}, {2, 4, 3, 4, false}, {3, 5, 2, 4, true}, {2, 4, 3, 5, false},
		{0, 0, 0, 0, false}, {1, 0, 0, 0, true}, {0, 0, 1, 0, false}, {0, 1, 0, 0, true}, {0, 0, 0, 1, false}, {1, 0, 0, 5, true}, {0, 5, 1, 0, false},
		{most, most, most, most, false}, {most, 0, most - 1, most, true}, {most - 1, most, most, 0, false}, {most, most, most, most - 1, true},
		{-1, 0, -2, 9, true}, {-2, 9, -1, 0, false}, {0, 0, -1, 7, true}, {0, 0, 0, -1, true}, {0, -1, 0, 0, false},
		{top, 0, least, 0, true}, {least, 0, top, 0, false}, {0, top, 0, least, true}, {0, least, 0, top, false}, // their difference wraps round
		{1 << 32, 0, 1, 9, true}, {1, 9, 1 << 32, 0, false}, {1, 1 << 32, 1, 9, true}, {1<<32 + 1, 0, 1, 9, true},
	} {
		if got := Later(c.boot, c.life, c.otherBoot, c.otherLife); got != c.want {
			t.Errorf("Later(%d, %d, %d, %d): %t", c.boot, c.life, c.otherBoot, c.otherLife, got)
		}
	}
}

func TestP14_1LaterOfAny(t *testing.T) {
	for _, a := range anyNumbers() {
		for _, b := range anyNumbers() {
			for _, c := range anyNumbers() {
				for _, d := range anyNumbers() {
					if Later(a, b, c, d) != sayLater(a, b, c, d) {
						t.Errorf("Later(%d, %d, %d, %d): %t", a, b, c, d, Later(a, b, c, d))
					}
				}
			}
		}
	}
}

// everybody is what a node has seen of all others.
func everybody(id int) []api.Seen {
	var l []api.Seen
	for n := range 16 {
		if n != id {
			l = append(l, seen(n, int64(n+1), int64(n), int64(2*n)))
		}
	}
	return l
}

func TestP14_1Fit(t *testing.T) {
	a, b, c := seen(0, 3, 1, 2), seen(5, 1, 0, 0), seen(15, 0, 0, 1)
	type list = []api.Seen
	for name, x := range map[string]struct {
		id   int
		l    list
		want bool
	}{
		"nil":                              {1, nil, true},
		"none":                             {1, list{}, true},
		"none of node 0":                   {0, nil, true},
		"none of node 15":                  {15, nil, true},
		"none of node -1":                  {-1, nil, false},
		"none of node 16":                  {16, nil, false},
		"none of the least number":         {math.MinInt, nil, false},
		"none of the greatest number":      {math.MaxInt, nil, false},
		"one":                              {1, list{b}, true},
		"the first node":                   {1, list{a}, true},
		"the last node":                    {1, list{c}, true},
		"one of node -1":                   {-1, list{b}, false},
		"one of node 16":                   {16, list{b}, false},
		"several":                          {1, list{a, b, c}, true},
		"all":                              {7, everybody(7), true},
		"all but node 0":                   {0, everybody(0), true},
		"all but node 15":                  {15, everybody(15), true},
		"all, of another node":             {8, everybody(7), false},
		"all, of no node":                  {16, everybody(15), false},
		"all numbers":                      {7, everybody(16), false},
		"all numbers, of no node":          {16, everybody(16), false},
		"falling":                          {1, list{b, a}, false},
		"falling at last":                  {1, list{a, c, b}, false},
		"falling at first":                 {1, list{b, a, c}, false},
		"twice":                            {1, list{b, b}, false},
		"twice, unlike":                    {1, list{b, seen(5, 2, 0, 0)}, false},
		"node 0 twice":                     {1, list{a, a}, false},
		"twice at last":                    {1, list{a, b, c, c}, false},
		"the node itself":                  {5, list{b}, false},
		"the node itself, first":           {0, list{a, b, c}, false},
		"the node itself, in the middle":   {5, list{a, b, c}, false},
		"the node itself, last":            {15, list{a, b, c}, false},
		"a peer -1":                        {1, list{seen(-1, 1, 0, 0), a}, false},
		"a peer -1, alone":                 {1, list{seen(-1, 1, 0, 0)}, false},
		"a peer 16":                        {1, list{a, b, c, seen(16, 1, 0, 0)}, false},
		"a peer 16, alone":                 {1, list{seen(16, 1, 0, 0)}, false},
		"the least number as a peer":       {1, list{seen(math.MinInt, 1, 0, 0)}, false},
		"the greatest number as a peer":    {1, list{seen(math.MaxInt, 1, 0, 0)}, false},
		"a peer of 33 bits":                {1, list{seen(1<<32+5, 1, 0, 0)}, false},
		"nothing seen, no life":            {1, list{seen(5, 0, 0, 0)}, false},
		"nothing seen, no life, first":     {1, list{seen(0, 0, 0, 0), b}, false},
		"nothing seen, no life, last":      {1, list{a, seen(5, 0, 0, 0)}, false},
		"nothing seen, a life towards it":  {1, list{seen(5, 0, 0, 1)}, true},
		"nothing seen, the greatest life":  {1, list{seen(5, 0, 0, most)}, true},
		"a Life without a Boot":            {1, list{seen(5, 0, 1, 0)}, false},
		"a Life without a Boot, a Mine":    {1, list{seen(5, 0, 1, 1)}, false},
		"the greatest Life without a Boot": {1, list{seen(5, 0, most, most)}, false},
		"a Boot alone":                     {1, list{seen(5, 1, 0, 0)}, true},
		"the greatest of all":              {1, list{seen(5, most, most, most)}, true},
		"an unfit one first":               {1, list{seen(0, -1, 0, 0), b, c}, false},
		"an unfit one in the middle":       {1, list{a, seen(5, 1, 0, -1), c}, false},
		"an unfit one last":                {1, list{a, b, seen(15, 1, -1, 0)}, false},
	} {
		if sayFit(x.id, x.l) != x.want {
			t.Fatalf("%s: the case itself is wrong", name)
		}
		if Fit(x.id, x.l) != x.want {
			t.Errorf("%s: Fit(%d, %+v): %t", name, x.id, x.l, !x.want)
		}
	}
}

// Each of Boot, Life and Mine is at every edge beside each of the others, alone and behind another peer's.
func TestP14_1FitOfNumbers(t *testing.T) {
	fit := 0
	for _, boot := range anyNumbers() {
		for _, life := range anyNumbers() {
			for _, mine := range anyNumbers() {
				s := seen(5, boot, life, mine)
				want := sayFit(1, []api.Seen{s})
				for _, l := range [][]api.Seen{{s}, {seen(2, 1, 0, 0), s}, {s, seen(9, 0, 0, 4)}} {
					if Fit(1, l) != want {
						t.Errorf("Fit(1, %+v): %t", l, !want)
					}
				}
				if want {
					fit++
				}
			}
		}
	}
	if fit != 6+6*7*7 { // Boot 0 with a Mine from 1 on, or a Boot from 1 on with any two
		t.Errorf("%d are fit", fit)
	}
}

func TestP14_1FitOfNodes(t *testing.T) {
	for _, id := range anyNodes() {
		for _, a := range anyNodes() {
			one := []api.Seen{seen(a, 1, 0, 0)}
			if Fit(id, one) != sayFit(id, one) {
				t.Errorf("Fit(%d, %+v): %t", id, one, Fit(id, one))
			}
			for _, b := range anyNodes() {
				two := append(one[:1:1], seen(b, 0, 0, 1))
				if Fit(id, two) != sayFit(id, two) {
					t.Errorf("Fit(%d, %+v): %t", id, two, Fit(id, two))
				}
			}
		}
	}
}

// Some numbers are changed at lists that are fit: what the words say is what comes.
func TestP14_1FitByTheWords(t *testing.T) {
	d, fit := newDice(141), 0
	for range 40000 {
		id := d.Intn(16)
		l := d.list(id)
		if !Fit(id, l) {
			t.Fatalf("Fit(%d, %+v): false", id, l)
		}
		for range d.Intn(3) {
			l, id = d.spoilt(l, id)
		}
		want := sayFit(id, l)
		if Fit(id, l) != want {
			t.Fatalf("Fit(%d, %+v): %t", id, l, !want)
		}
		if want {
			fit++
		}
	}
	if fit < 10000 || fit > 30000 {
		t.Errorf("%d of 40000 are fit", fit)
	}
}

// spoilt is a list in which something is changed, mostly so that it is fit no more; or another node's.
func (d dice) spoilt(l []api.Seen, id int) ([]api.Seen, int) {
	if len(l) == 0 || d.Intn(8) == 0 {
		return l, d.Intn(20) - 2
	}
	l = slices.Clone(l)
	i, j := d.Intn(len(l)), d.Intn(len(l))
	number := anyNumbers()[d.Intn(len(anyNumbers()))]
	switch d.Intn(6) {
	case 0:
		l[i], l[j] = l[j], l[i]
	case 1:
		l[i].Peer += d.Intn(5) - 2
	case 2:
		l[i].Boot = number
	case 3:
		l[i].Life = number
	case 4:
		l[i].Mine = number
	case 5:
		l = slices.Insert(l, i, d.entry(d.Intn(18)-1))
	}
	return l, id
}

// three is a list with an entry first, one in the middle and one last, and room ahead, between and behind.
func three() []api.Seen { return []api.Seen{seen(2, 9, 8, 7), seen(5, 3, 1, 4), seen(12, 0, 0, 6)} }

func TestP14_2Get(t *testing.T) {
	for name, c := range map[string]struct {
		l    []api.Seen
		peer int
		want api.Seen
	}{
		"the first":              {three(), 2, seen(2, 9, 8, 7)},
		"in the middle":          {three(), 5, seen(5, 3, 1, 4)},
		"the last":               {three(), 12, seen(12, 0, 0, 6)},
		"ahead of all":           {three(), 1, api.Seen{Peer: 1}},
		"far ahead of all":       {three(), 0, api.Seen{}},
		"between the first two":  {three(), 4, api.Seen{Peer: 4}},
		"right behind the first": {three(), 3, api.Seen{Peer: 3}},
		"between the last two":   {three(), 11, api.Seen{Peer: 11}},
		"behind all":             {three(), 13, api.Seen{Peer: 13}},
		"far behind all":         {three(), 15, api.Seen{Peer: 15}},
		"of nil":                 {nil, 5, api.Seen{Peer: 5}},
		"of none":                {[]api.Seen{}, 0, api.Seen{}},
		"of one":                 {three()[1:2], 5, seen(5, 3, 1, 4)},
		"of one, ahead":          {three()[1:2], 2, api.Seen{Peer: 2}},
		"of one, behind":         {three()[1:2], 12, api.Seen{Peer: 12}},
		"node 0":                 {everybody(7), 0, seen(0, 1, 0, 0)},
		"node 15":                {everybody(7), 15, seen(15, 16, 15, 30)},
		"the node itself":        {everybody(7), 7, api.Seen{Peer: 7}},
	} {
		if got := Get(c.l, c.peer); got != c.want {
			t.Errorf("%s: %+v, want %+v", name, got, c.want)
		}
	}
}

// becomes holds a list that came out to what it is to be.
func becomes(t *testing.T, name string, got, want []api.Seen) {
	t.Helper()
	if !slices.Equal(got, want) {
		t.Errorf("%s: %+v, want %+v", name, got, want)
	}
}

func TestP14_3SeeOfPlaces(t *testing.T) {
	a, b, c := three()[0], three()[1], three()[2]
	type list = []api.Seen
	becomes(t, "the first", See(three(), 2, 10, 0), list{seen(2, 10, 0, 7), b, c})
	becomes(t, "in the middle", See(three(), 5, 4, 0), list{a, seen(5, 4, 0, 4), c})
	becomes(t, "the last, that was not seen", See(three(), 12, 1, 0), list{a, b, seen(12, 1, 0, 6)})
	becomes(t, "ahead of all", See(three(), 0, 1, 2), list{seen(0, 1, 2, 0), a, b, c})
	becomes(t, "right ahead of all", See(three(), 1, 1, 2), list{seen(1, 1, 2, 0), a, b, c})
	becomes(t, "between the first two", See(three(), 4, 1, 2), list{a, seen(4, 1, 2, 0), b, c})
	becomes(t, "between the last two", See(three(), 6, 1, 2), list{a, b, seen(6, 1, 2, 0), c})
	becomes(t, "behind all", See(three(), 15, 1, 2), list{a, b, c, seen(15, 1, 2, 0)})
	becomes(t, "among nobody", See(nil, 5, 1, 0), list{seen(5, 1, 0, 0)})
	becomes(t, "among nobody, with a life", See(list{}, 0, most, most), list{seen(0, most, most, 0)})
}

func TestP14_3SeeOfIncarnations(t *testing.T) {
	for name, c := range map[string]struct{ was, boot, life, wantBoot, wantLife int64 }{
		"example 1, earlier by its life":          {1, 3, 0, 3, 1},
		"example 1, later by its life":            {1, 3, 2, 3, 2},
		"the same":                                {1, 3, 1, 3, 1},
		"earlier by its boot number":              {1, 2, 1, 3, 1},
		"earlier by its boot, a greater life":     {1, 2, 9, 3, 1},
		"far earlier, the greatest life":          {1, 1, most, 3, 1},
		"later by its boot number":                {1, 4, 1, 4, 1},
		"later by its boot number, a lesser life": {9, 4, 2, 4, 2},
		"later by its boot number, no life":       {most, 4, 0, 4, 0},
		"later by both":                           {1, 4, 2, 4, 2},
		"the greatest boot number":                {1, most, 0, most, 0},
		"the greatest life":                       {most - 1, 3, most, 3, most},
		"the greatest life once more":             {most, 3, most, 3, most},
	} {
		a, b := three()[0], three()[2]
		l := []api.Seen{a, seen(5, 3, c.was, 4), b}
		becomes(t, name, See(l, 5, c.boot, c.life), []api.Seen{a, seen(5, c.wantBoot, c.wantLife, 4), b})
	}
	// What is not later than nothing leaves no entry.
	becomes(t, "no incarnation", See(nil, 5, 0, 0), nil)
	becomes(t, "no incarnation, among others", See(three(), 6, 0, 0), three())
	becomes(t, "no incarnation, of one that was not seen", See(three(), 12, 0, 0), three())
}

func TestP14_3Dropped(t *testing.T) {
	a, b, c := three()[0], three()[1], three()[2]
	type list = []api.Seen
	becomes(t, "the first", Dropped(three(), 2), list{seen(2, 9, 8, 8), b, c})
	becomes(t, "in the middle", Dropped(three(), 5), list{a, seen(5, 3, 1, 5), c})
	becomes(t, "the last, that was not seen", Dropped(three(), 12), list{a, b, seen(12, 0, 0, 7)})
	becomes(t, "ahead of all", Dropped(three(), 0), list{seen(0, 0, 0, 1), a, b, c})
	becomes(t, "between the first two", Dropped(three(), 3), list{a, seen(3, 0, 0, 1), b, c})
	becomes(t, "between the last two", Dropped(three(), 11), list{a, b, seen(11, 0, 0, 1), c})
	becomes(t, "behind all", Dropped(three(), 15), list{a, b, c, seen(15, 0, 0, 1)})
	becomes(t, "among nobody", Dropped(nil, 5), list{seen(5, 0, 0, 1)})
	for was, want := range map[int64]int64{0: 1, 1: 2, 1<<32 - 1: 1 << 32, most - 2: most - 1, most - 1: most, most: most} {
		becomes(t, "Mine", Dropped(list{a, seen(5, 3, 1, was), c}, 5), list{a, seen(5, 3, 1, want), c})
		if was > 0 {
			becomes(t, "Mine, not seen", Dropped(list{seen(5, 0, 0, was)}, 5), list{seen(5, 0, 0, want)})
		}
	}
}

// Of all choices among some entries, and of many lists that are drawn, each call is what the words say of all peers.
func TestP14_2And3Everywhere(t *testing.T) {
	check := func(l []api.Seen) {
		for peer := range 16 {
			if got := Get(l, peer); got != sayGet(l, peer) {
				t.Fatalf("Get(%+v, %d): %+v", l, peer, got)
			}
			if got := Dropped(l, peer); !slices.Equal(got, sayDropped(l, peer)) {
				t.Fatalf("Dropped(%+v, %d): %+v", l, peer, got)
			}
			for boot, life := range pairs {
				if got := See(l, peer, boot, life); !slices.Equal(got, saySee(l, peer, boot, life)) {
					t.Fatalf("See(%+v, %d, %d, %d): %+v", l, peer, boot, life, got)
				}
			}
		}
	}
	for l := range subsets([]api.Seen{seen(0, 2, 1, 0), seen(1, 0, 0, most), seen(5, 3, 1, 4), seen(6, most, 0, most-1), seen(14, 1, most, 0), seen(15, most, most, 3)}) {
		check(l)
	}
	d := newDice(142)
	for range 400 {
		check(d.list(d.Intn(16)))
	}
}
