package miss

import (
	"slices"
	"testing"

	"eddy/api"
	"eddy/half"
)

func fresh() api.Half { return api.Half{Peer: 5, Boot: 1} }

// with is a half-edge as given, with what is pending and how many misses.
func with(h api.Half, pending bool, misses int) api.Half {
	h.Pending, h.Misses = pending, misses
	return h
}

func TestP15_1Turn(t *testing.T) {
	for _, h := range bases() {
		for _, c := range []struct {
			name string
			in   api.Half
			out  api.Half
			told int
		}{
			{name: "nothing pending", in: with(h, false, 0), out: with(h, true, 0), told: api.TkAsk},
			{name: "pending, no miss", in: with(h, true, 0), out: with(h, true, 1), told: api.TkAsk},
			{name: "pending, one miss", in: with(h, true, 1), out: with(h, true, 2), told: api.TkAsk},
			{name: "pending, two misses", in: with(h, true, 2), told: api.TkDrop},
		} {
			out, told := Turn(c.in)
			if !same(out, c.out) || told != c.told {
				t.Errorf("%s: Turn(%+v): %+v, %d, want %+v, %d", c.name, c.in, out, told, c.out, c.told)
			}
		}
	}
}

func TestP15_1TheDropIsTheZeroOne(t *testing.T) {
	for _, h := range bases() {
		out, told := Turn(with(h, true, api.MissLimit-1))
		if !isZero(out) || told != 2 {
			t.Errorf("Turn of two misses of %+v: %+v, %d", h, out, told)
		}
	}
	if api.MissLimit != 3 || api.TkAsk != 1 || api.TkDrop != 2 {
		t.Error("the numbers are others than the document's")
	}
}

func TestP15_1Example(t *testing.T) {
	h := fresh()
	for i, want := range []int{api.TkAsk, api.TkAsk, api.TkAsk, api.TkDrop} {
		if left := Left(h); left != []int{4, 3, 2, 1}[i] {
			t.Errorf("ahead of turn %d: Left %d", i+1, left)
		}
		told := 0
		if h, told = Turn(h); told != want {
			t.Errorf("turn %d: %d, want %d", i+1, told, want)
		}
		if i < 3 && !same(h, with(fresh(), true, i)) {
			t.Errorf("turn %d: %+v", i+1, h)
		}
	}
	if !isZero(h) {
		t.Errorf("behind the drop: %+v", h)
	}
}

type single struct {
	name    string
	pending bool
	misses  int
	want    func(h api.Half) api.Half
}

// singles holds one of the calls to what it answers in each of the four states.
func singles(t *testing.T, name string, call func(api.Half) api.Half, cases []single) {
	t.Helper()
	if len(cases) != 4 {
		t.Fatalf("%s: %d cases", name, len(cases))
	}
	for _, h := range bases() {
		for _, c := range cases {
			given := with(h, c.pending, c.misses)
			if out, want := call(given), c.want(h); !same(out, want) {
				t.Errorf("%s, %s: of %+v: %+v, want %+v", name, c.name, given, out, want)
			}
		}
	}
}

// as is a half-edge with what is pending and how many misses, whatever they were.
func as(pending bool, misses int) func(api.Half) api.Half {
	return func(h api.Half) api.Half { return with(h, pending, misses) }
}

func TestP15_2Asked(t *testing.T) {
	singles(t, "Asked", Asked, []single{
		{"nothing pending", false, 0, as(true, 0)},
		{"no miss", true, 0, as(true, 0)},
		{"one miss", true, 1, as(true, 1)},
		{"two misses", true, 2, as(true, 2)},
	})
}

func TestP15_3Heard(t *testing.T) {
	singles(t, "Heard", Heard, []single{
		{"nothing pending", false, 0, as(false, 0)},
		{"no miss", true, 0, as(true, 0)},
		{"one miss", true, 1, as(true, 0)},
		{"two misses", true, 2, as(true, 0)},
	})
}

func TestP15_4Answered(t *testing.T) {
	singles(t, "Answered", Answered, []single{
		{"nothing pending", false, 0, as(false, 0)},
		{"no miss", true, 0, as(false, 0)},
		{"one miss", true, 1, as(false, 0)},
		{"two misses", true, 2, as(false, 0)},
	})
}

// Lines, peer, boot number and life stay in all of them but the drop, and what comes is fit.
func TestP15_4WhatStays(t *testing.T) {
	for state, h := range fitOnes {
		for what := turn; what <= answered; what++ {
			out, _ := do(h, what)
			if what == turn && state == dropped-1 {
				continue
			}
			if out.Peer != h.Peer || out.Boot != h.Boot || out.Life != h.Life || !slices.Equal(out.Lines, h.Lines) {
				t.Errorf("%d of %+v: %+v", what, h, out)
			}
			if !half.Fit(id, out) {
				t.Errorf("%d of %+v: %+v is not fit", what, h, out)
			}
		}
	}
}

func TestP15_5Left(t *testing.T) {
	for _, h := range bases() {
		for _, c := range []struct {
			pending bool
			misses  int
			want    int
		}{{false, 0, 4}, {true, 0, 3}, {true, 1, 2}, {true, 2, 1}} {
			given := with(h, c.pending, c.misses)
			if n := Left(given); n != c.want {
				t.Errorf("Left(%+v): %d, want %d", given, n, c.want)
			}
		}
	}
}

// So many turns as Left says it takes, that one too which tells TkDrop.
func TestP15_5TurnsUntilTheDrop(t *testing.T) {
	for _, h := range fitOnes {
		n, told, x := 0, 0, h
		for told != api.TkDrop {
			if left := Left(x); left != Left(h)-n {
				t.Errorf("%+v, behind %d turns: Left %d", h, n, left)
			}
			x, told = Turn(x)
			if n++; n > 10 {
				t.Fatalf("%+v is not dropped", h)
			}
		}
		if n != Left(h) {
			t.Errorf("%+v: dropped by turn %d, Left %d", h, n, Left(h))
		}
	}
}

// Behind what is heard and asked it is as many as the state says.
func TestP15_5LeftBehindTheOthers(t *testing.T) {
	for state, h := range fitOnes {
		for what := asked; what <= answered; what++ {
			out, _ := do(h, what)
			if want := dropped - steps[what][state]; Left(out) != want {
				t.Errorf("Left behind %d of %+v: %d, want %d", what, h, Left(out), want)
			}
		}
	}
}

func TestP15_6Play(t *testing.T) {
	for _, c := range []struct {
		name string
		h    api.Half
		row  []int
		want api.Half
		told []int
	}{
		{"example 1", fresh(), []int{1, 1, 1, 1}, api.Half{}, []int{1, 1, 1, 2}},
		{"example 1, shorter", fresh(), []int{1, 1, 1}, with(fresh(), true, 2), []int{1, 1, 1}},
		{"example 2", fresh(), []int{1, 1, 3, 1, 1, 1}, api.Half{}, []int{1, 1, 1, 1, 2}},
		{"example 2, shorter", fresh(), []int{1, 1, 3, 1, 1}, with(fresh(), true, 2), []int{1, 1, 1, 1}},
		{"example 3", fresh(), []int{1, 4, 1}, with(fresh(), true, 0), []int{1, 1}},
		{"nothing happens", fresh(), nil, fresh(), nil},
		{"an empty row", with(fresh(), true, 2), []int{}, with(fresh(), true, 2), nil},
		{"a turn alone", fresh(), []int{1}, with(fresh(), true, 0), []int{1}},
		{"asked alone", fresh(), []int{2}, with(fresh(), true, 0), nil},
		{"heard alone", with(fresh(), true, 2), []int{3}, with(fresh(), true, 0), nil},
		{"answered alone", with(fresh(), true, 2), []int{4}, fresh(), nil},
		{"the drop alone", with(fresh(), true, 2), []int{1}, api.Half{}, []int{2}},
		{"asked, so that three turns do", fresh(), []int{2, 1, 1, 1}, api.Half{}, []int{1, 1, 2}},
		{"asked is no miss", fresh(), []int{2, 2, 2, 2, 2}, with(fresh(), true, 0), nil},
		{"asked hears nothing", with(fresh(), true, 2), []int{2, 1}, api.Half{}, []int{2}},
		{"nothing behind a drop", with(fresh(), true, 2), []int{1, 1, 1, 1, 1, 1}, api.Half{}, []int{2}},
		{"nothing behind a drop, asked", with(fresh(), true, 2), []int{1, 2}, api.Half{}, []int{2}},
		{"nothing behind a drop, heard", with(fresh(), true, 1), []int{1, 1, 3, 4, 2, 1}, api.Half{}, []int{1, 2}},
		{"numbers that are none of them", with(fresh(), true, 1), none(), with(fresh(), true, 1), nil},
		{"such between", fresh(), []int{0, 1, 5, 1, -1, 1, 1 << 40, 1}, api.Half{}, []int{1, 1, 1, 2}},
	} {
		h, told := Play(c.h, c.row)
		if !same(h, c.want) || !slices.Equal(told, c.told) {
			t.Errorf("%s: Play(%+v, %v): %+v, %v, want %+v, %v", c.name, c.h, c.row, h, told, c.want, c.told)
		}
	}
}

// plays holds Play to the model and to the calls, one by one.
func plays(t *testing.T, h api.Half, row []int) {
	t.Helper()
	got, told := Play(h, row)
	want, tells := sayPlay(h, row)
	if !same(got, want) || !slices.Equal(told, tells) {
		t.Fatalf("Play(%+v, %v): %+v, %v, want %+v, %v", h, row, got, told, want, tells)
	}
	x, by := h, []int(nil)
	for _, what := range row {
		tells := 0
		if x, tells = do(x, what); tells > 0 {
			by = append(by, tells)
		}
		if tells == api.TkDrop {
			break
		}
	}
	if !same(got, x) || !slices.Equal(told, by) {
		t.Fatalf("Play(%+v, %v): %+v, %v; one by one: %+v, %v", h, row, got, told, x, by)
	}
}

// All rows of up to six things, one that is nothing among them, from all states.
func TestP15_6AllShortRows(t *testing.T) {
	for row := range rows(5, 6) {
		for state := range dropped {
			plays(t, in(state, bases()[3]), row)
		}
	}
}

func TestP15_6AloneOfAll(t *testing.T) {
	for _, h := range fitOnes {
		plays(t, h, nil)
		for what := turn; what <= answered; what++ {
			plays(t, h, []int{what})
		}
		for _, nothing := range none() {
			plays(t, h, []int{nothing})
			plays(t, h, []int{nothing, turn, nothing, heard, nothing, turn, turn, nothing, turn, nothing, turn, nothing})
		}
	}
}

func TestP15_6DrawnRows(t *testing.T) {
	d := newDice(156)
	for range 20000 {
		plays(t, d.half(), d.row(60))
	}
}

// Two rows played one behind the other are one row, unless the first one drops.
func TestP15_6RowsJoin(t *testing.T) {
	d, joined := newDice(1562), 0
	for range 5000 {
		h, a, b := d.half(), d.row(12), d.row(12)
		first, told := Play(h, a)
		if slices.Contains(told, api.TkDrop) {
			if x, tells := Play(h, slices.Concat(a, b)); !isZero(x) || !slices.Equal(tells, told) {
				t.Fatalf("%+v, %v, %v: %+v, %v", h, a, b, x, tells)
			}
			continue
		}
		joined++
		second, more := Play(first, b)
		if x, tells := Play(h, slices.Concat(a, b)); !same(x, second) || !slices.Equal(tells, slices.Concat(told, more)) {
			t.Fatalf("%+v, %v, %v: %+v, %v", h, a, b, x, tells)
		}
	}
	if joined < 500 || joined > 4500 {
		t.Errorf("%d of 5000 join", joined)
	}
}
