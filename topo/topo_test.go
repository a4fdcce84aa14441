package topo

import (
	"math"
	"slices"
	"testing"

	"eddy/api"
)

func TestP13_1Fit(t *testing.T) {
	full, more := []int{5, 1, 7, 0, 15, 2}, []int{5, 1, 7, 0, 15, 2, 4}
	for name, c := range map[string]struct {
		r    ring
		want bool
	}{
		"nobody":                          {ring{3, nil, 0}, true},
		"nobody, an empty list":           {ring{3, []int{}, 0}, true},
		"nobody, turn 1":                  {ring{3, nil, 1}, false},
		"nobody, turn -1":                 {ring{3, nil, -1}, false},
		"nobody, the greatest turn":       {ring{3, nil, math.MaxInt}, false},
		"one":                             {ring{3, []int{5}, 0}, true},
		"one, turn behind it":             {ring{3, []int{5}, 1}, false},
		"one, turn below 0":               {ring{3, []int{5}, -1}, false},
		"three, at the last place":        {ring{3, []int{5, 1, 7}, 2}, true},
		"three, behind the last place":    {ring{3, []int{5, 1, 7}, 3}, false},
		"three, turn far below 0":         {ring{3, []int{5, 1, 7}, math.MinInt}, false},
		"three, turn far above":           {ring{3, []int{5, 1, 7}, math.MaxInt}, false},
		"three, a turn of 33 bits":        {ring{3, []int{5, 1, 7}, 1<<32 + 1}, false},
		"MaxDegree":                       {ring{3, full, 0}, true},
		"MaxDegree, at the last place":    {ring{3, full, 5}, true},
		"MaxDegree, behind it":            {ring{3, full, 6}, false},
		"one more than MaxDegree":         {ring{3, more, 0}, false},
		"one more, at the last place":     {ring{3, more, 6}, false},
		"twice, side by side":             {ring{3, []int{5, 5}, 0}, false},
		"twice, first and last":           {ring{3, []int{5, 1, 7, 5}, 1}, false},
		"twice, the last two":             {ring{3, []int{5, 1, 7, 7}, 0}, false},
		"itself, first":                   {ring{3, []int{3, 5}, 0}, false},
		"itself, last":                    {ring{3, []int{5, 1, 3}, 0}, false},
		"itself, alone":                   {ring{0, []int{0}, 0}, false},
		"a neighbour -1":                  {ring{3, []int{-1}, 0}, false},
		"a neighbour 16":                  {ring{3, []int{5, 16}, 0}, false},
		"the least and greatest numbers":  {ring{3, []int{0, 15}, 1}, true},
		"a neighbour far below":           {ring{3, []int{5, math.MinInt}, 0}, false},
		"a neighbour far above":           {ring{3, []int{math.MaxInt, 5}, 0}, false},
		"the node 0":                      {ring{0, []int{5}, 0}, true},
		"the node 15":                     {ring{15, []int{5}, 0}, true},
		"a node -1":                       {ring{-1, []int{5}, 0}, false},
		"a node 16":                       {ring{16, []int{5}, 0}, false},
		"a node -1 that wants nobody":     {ring{-1, nil, 0}, false},
		"a node 16 that wants nobody":     {ring{16, nil, 0}, false},
		"the least number as a node":      {ring{math.MinInt, nil, 0}, false},
		"the greatest number as a node":   {ring{math.MaxInt, nil, 0}, false},
		"in another order than by number": {ring{3, []int{9, 2, 8, 4}, 3}, true},
	} {
		if got := c.r.fit(); got != c.want || got != c.r.sayFit() {
			t.Errorf("%s: %t", name, got)
		}
	}
}

// Of each node, list and turn Fit is what the words say: for lists of at most three of all numbers, and for such as are
// one number away from fit ones.
func TestP13_1FitOfAny(t *testing.T) {
	check := func(r ring) {
		if got := r.fit(); got != r.sayFit() {
			t.Fatalf("Fit of %+v: %t", r, got)
		}
	}
	places := []int{math.MinInt, -1, 0, 1, 2, 3, math.MaxInt}
	for _, a := range anyNumbers() {
		for _, b := range anyNumbers() {
			for _, id := range anyNumbers() {
				for _, turn := range places {
					check(ring{id, nil, turn})
					check(ring{id, []int{a}, turn})
					check(ring{id, []int{a, b}, turn})
					check(ring{id, []int{4, a, b}, turn})
				}
			}
		}
	}
	d := newDice(131)
	for range 20000 {
		r := d.ring()
		numbers := anyNumbers()
		for range d.Intn(3) {
			r.want = append(slices.Clone(r.want), numbers[d.Intn(len(numbers))])
		}
		if len(r.want) > 0 && d.Intn(2) == 0 {
			r.want[d.Intn(len(r.want))] = d.Intn(18) - 1
		}
		r.turn = d.Intn(10) - 1
		check(r)
	}
}

func TestP13_2Has(t *testing.T) {
	want := []int{5, 1, 7, 0, 15}
	for _, v := range want {
		if !Has(want, v) {
			t.Errorf("%d is wanted", v)
		}
	}
	for _, v := range []int{math.MinInt, -1, 2, 3, 4, 6, 8, 14, 16, 1<<32 + 5, math.MaxInt} {
		if Has(want, v) {
			t.Errorf("%d is not wanted", v)
		}
	}
	if Has(nil, 0) || Has([]int{}, 0) || Has(want[:1], 1) {
		t.Error("nobody is wanted")
	}
}

func TestP13_3Link(t *testing.T) {
	full := []int{0, 1, 2, 3, 4, 5}
	for name, c := range map[string]struct {
		r    ring
		v    int
		want list
	}{
		"example 1":                       {ring{3, nil, 0}, 5, list{[]int{5}, api.OK}},
		"example 1, itself":               {ring{3, []int{5}, 0}, 3, list{[]int{5}, api.ErrSelf}},
		"example 1, no node":              {ring{3, []int{5}, 0}, 16, list{[]int{5}, api.ErrNode}},
		"example 1, wanted":               {ring{3, []int{5}, 0}, 5, list{[]int{5}, api.ErrHave}},
		"behind the others":               {ring{3, []int{5, 7}, 0}, 1, list{[]int{5, 7, 1}, api.OK}},
		"the least node":                  {ring{3, []int{5, 7}, 1}, 0, list{[]int{5, 7, 0}, api.OK}},
		"the greatest node":               {ring{3, []int{5, 7}, 1}, 15, list{[]int{5, 7, 15}, api.OK}},
		"the sixth":                       {ring{9, full[:5], 0}, 5, list{full, api.OK}},
		"the seventh":                     {ring{9, full, 0}, 6, list{full, api.ErrDegree}},
		"nobody, itself":                  {ring{0, nil, 0}, 0, list{nil, api.ErrSelf}},
		"nobody, below 0":                 {ring{0, nil, 0}, -1, list{nil, api.ErrNode}},
		"the least number":                {ring{3, []int{5, 7}, 0}, math.MinInt, list{[]int{5, 7}, api.ErrNode}},
		"the greatest number":             {ring{3, []int{5, 7}, 0}, math.MaxInt, list{[]int{5, 7}, api.ErrNode}},
		"wanted, the last one":            {ring{3, []int{5, 7}, 0}, 7, list{[]int{5, 7}, api.ErrHave}},
		"no node ahead of too many":       {ring{9, full, 0}, 16, list{full, api.ErrNode}},
		"below 0 ahead of too many":       {ring{9, full, 0}, -1, list{full, api.ErrNode}},
		"itself ahead of too many":        {ring{9, full, 0}, 9, list{full, api.ErrSelf}},
		"wanted ahead of too many, first": {ring{9, full, 0}, 0, list{full, api.ErrHave}},
		"wanted ahead of too many, last":  {ring{9, full, 5}, 5, list{full, api.ErrHave}},
		"no node ahead of itself":         {ring{16, []int{5}, 0}, 16, list{[]int{5}, api.ErrNode}},
		"no node ahead of wanted":         {ring{3, []int{-1}, 0}, -1, list{[]int{-1}, api.ErrNode}},
		"itself ahead of wanted":          {ring{3, []int{5, 3}, 0}, 3, list{[]int{5, 3}, api.ErrSelf}},
	} {
		if got := c.r.link(c.v); !got.same(c.want) {
			t.Errorf("%s: %v, want %v", name, got, c.want)
		}
	}
}

func TestP13_4Unlink(t *testing.T) {
	want := []int{5, 1, 7}
	for name, c := range map[string]struct {
		r    ring
		v    int
		want cut
	}{
		"example 3, ahead of the place":  {ring{3, want, 2}, 5, cut{[]int{1, 7}, 1, api.OK}},
		"example 3, at the last place":   {ring{3, want, 2}, 7, cut{[]int{5, 1}, 0, api.OK}},
		"example 3, at the place":        {ring{3, want, 1}, 1, cut{[]int{5, 7}, 1, api.OK}},
		"at the first place":             {ring{3, want, 0}, 5, cut{[]int{1, 7}, 0, api.OK}},
		"behind the place":               {ring{3, want, 0}, 1, cut{[]int{5, 7}, 0, api.OK}},
		"behind the place, the last one": {ring{3, want, 1}, 7, cut{[]int{5, 1}, 1, api.OK}},
		"far behind the place":           {ring{3, want, 0}, 7, cut{[]int{5, 1}, 0, api.OK}},
		"ahead of the last place":        {ring{3, want, 2}, 1, cut{[]int{5, 7}, 1, api.OK}},
		"ahead of the second place":      {ring{3, want, 1}, 5, cut{[]int{1, 7}, 0, api.OK}},
		"the only one":                   {ring{3, []int{5}, 0}, 5, cut{nil, 0, api.OK}},
		"the first of two, at it":        {ring{3, []int{5, 1}, 0}, 5, cut{[]int{1}, 0, api.OK}},
		"the first of two, at the other": {ring{3, []int{5, 1}, 1}, 5, cut{[]int{1}, 0, api.OK}},
		"the last of two, at it":         {ring{3, []int{5, 1}, 1}, 1, cut{[]int{5}, 0, api.OK}},
		"the last of two, at the other":  {ring{3, []int{5, 1}, 0}, 1, cut{[]int{5}, 0, api.OK}},
		"not wanted":                     {ring{3, want, 2}, 6, cut{want, 2, api.ErrNone}},
		"not wanted, itself":             {ring{3, want, 1}, 3, cut{want, 1, api.ErrNone}},
		"not wanted, below 0":            {ring{3, want, 2}, -1, cut{want, 2, api.ErrNone}},
		"not wanted, no node":            {ring{3, want, 2}, 16, cut{want, 2, api.ErrNone}},
		"the least number":               {ring{3, want, 0}, math.MinInt, cut{want, 0, api.ErrNone}},
		"the greatest number":            {ring{3, want, 2}, math.MaxInt, cut{want, 2, api.ErrNone}},
		"nobody is wanted":               {ring{3, nil, 0}, 0, cut{nil, 0, api.ErrNone}},
		"nobody is wanted, an empty one": {ring{3, []int{}, 0}, 5, cut{nil, 0, api.ErrNone}},
	} {
		if got := c.r.unlink(c.v); !got.same(c.want) {
			t.Errorf("%s: %v, want %v", name, got, c.want)
		}
	}
}

// From lists of all lengths, at all places, each one is taken away: the others stand as they stood, and the turn is one
// less behind it, and 0 where that is the end.
func TestP13_4AllPlaces(t *testing.T) {
	full := []int{5, 1, 15, 0, 14, 7}
	for n := 1; n <= len(full); n++ {
		for turn := range n {
			for at := range n {
				r := ring{3, full[:n], turn}
				want := cut{slices.Concat(full[:at], full[at+1:n]), turn, api.OK}
				if turn > at {
					want.turn = turn - 1
				}
				if want.turn == n-1 {
					want.turn = 0
				}
				if got := r.unlink(full[at]); !got.same(want) {
					t.Errorf("%+v without %d: %v, want %v", r, full[at], got, want)
				}
			}
		}
	}
}

func TestP13_5Next(t *testing.T) {
	want := []int{5, 1, 7}
	for name, c := range map[string]struct {
		r    ring
		want next
	}{
		"example 2":                   {ring{3, want, 2}, next{7, 0, true}},
		"first":                       {ring{3, want, 0}, next{5, 1, true}},
		"in the middle":               {ring{3, want, 1}, next{1, 2, true}},
		"only one":                    {ring{3, []int{5}, 0}, next{5, 0, true}},
		"the node 0":                  {ring{3, []int{0}, 0}, next{0, 0, true}},
		"MaxDegree":                   {ring{3, []int{5, 1, 7, 0, 15, 2}, 4}, next{15, 5, true}},
		"MaxDegree, the last":         {ring{3, []int{5, 1, 7, 0, 15, 2}, 5}, next{2, 0, true}},
		"nobody":                      {ring{3, nil, 0}, next{0, 0, false}},
		"nobody, an empty list":       {ring{3, []int{}, 0}, next{0, 0, false}},
		"nobody, another turn":        {ring{3, nil, 4}, next{0, 4, false}},
		"nobody, a turn below 0":      {ring{3, nil, -1}, next{0, -1, false}},
		"nobody, the greatest turn":   {ring{3, []int{}, math.MaxInt}, next{0, math.MaxInt, false}},
		"nobody, the least turn":      {ring{3, []int{}, math.MinInt}, next{0, math.MinInt, false}},
		"nobody, room behind the end": {ring{3, want[:0], 0}, next{0, 0, false}},
	} {
		if got := c.r.next(); got != c.want {
			t.Errorf("%s: %v, want %v", name, got, c.want)
		}
	}
}

func TestP13_6Turns(t *testing.T) {
	want := []int{5, 1, 7}
	for name, c := range map[string]struct {
		r    ring
		n    int
		want []int
	}{
		"example 2":           {ring{3, want, 1}, 4, []int{1, 7, 5, 1}},
		"once":                {ring{3, want, 0}, 1, []int{5}},
		"once, at the end":    {ring{3, want, 2}, 1, []int{7}},
		"as many as wanted":   {ring{3, want, 2}, 3, []int{7, 5, 1}},
		"one more":            {ring{3, want, 2}, 4, []int{7, 5, 1, 7}},
		"only one":            {ring{3, []int{0}, 0}, 3, []int{0, 0, 0}},
		"no times":            {ring{3, want, 1}, 0, nil},
		"below 0":             {ring{3, want, 1}, -1, nil},
		"the least number":    {ring{3, want, 1}, math.MinInt, nil},
		"nobody":              {ring{3, nil, 0}, 4, nil},
		"nobody, no times":    {ring{3, nil, 0}, 0, nil},
		"nobody, without end": {ring{3, []int{}, 0}, math.MaxInt, nil},
		"nobody, with room":   {ring{3, want[:0], 0}, 2, nil},
	} {
		if got := c.r.turns(c.n); !slices.Equal(got, c.want) {
			t.Errorf("%s: %v, want %v", name, got, c.want)
		}
	}
}

// More than 100000 turns count as 100000; each n below has as many turns as it says.
func TestP13_6Most(t *testing.T) {
	for _, r := range []ring{{3, []int{5}, 0}, {3, []int{5, 1, 7}, 2}, {3, []int{5, 1, 7, 0, 15, 2}, 4}} {
		for n, want := range map[int]int{
			9999: 9999, 65536: 65536, 99998: 99998, 99999: 99999, 100000: 100000, 100001: 100000, 200000: 100000,
			1 << 31: 100000, 1 << 32: 100000, 1<<32 + 1: 100000, math.MaxInt: 100000,
		} {
			got := r.turns(n)
			if len(got) != want || !slices.Equal(got, r.sayTurns(n)) {
				t.Errorf("%+v, %d times: %d turns", r, n, len(got))
			}
		}
	}
}

func TestP13_7Wait(t *testing.T) {
	want := []int{5, 1, 7}
	for name, c := range map[string]struct {
		r    ring
		v    int
		want int
	}{
		"example 2":             {ring{3, want, 1}, 5, 3},
		"it is next":            {ring{3, want, 1}, 1, 1},
		"the one behind":        {ring{3, want, 1}, 7, 2},
		"next, at the end":      {ring{3, want, 2}, 7, 1},
		"round the end":         {ring{3, want, 2}, 1, 3},
		"first":                 {ring{3, want, 0}, 5, 1},
		"last":                  {ring{3, want, 0}, 7, 3},
		"only one":              {ring{3, []int{0}, 0}, 0, 1},
		"the farthest":          {ring{3, []int{5, 1, 7, 0, 15, 2}, 4}, 0, 6},
		"not wanted":            {ring{3, want, 1}, 6, 0},
		"not wanted, itself":    {ring{3, want, 1}, 3, 0},
		"not wanted, the 0":     {ring{3, want, 1}, 0, 0},
		"not wanted, below 0":   {ring{3, want, 1}, -1, 0},
		"not wanted, no node":   {ring{3, want, 1}, 16, 0},
		"the least number":      {ring{3, want, 1}, math.MinInt, 0},
		"the greatest number":   {ring{3, want, 1}, math.MaxInt, 0},
		"nobody is wanted":      {ring{3, nil, 0}, 0, 0},
		"behind the list's end": {ring{3, want[:2], 1}, 7, 0},
	} {
		if got := c.r.wait(c.v); got != c.want {
			t.Errorf("%s: %d, want %d", name, got, c.want)
		}
	}
}

// Every call over fit rings is what the words say.
func TestP13_1To7Everywhere(t *testing.T) {
	everywhere(137, func(r ring) { right(t, r) })
}
