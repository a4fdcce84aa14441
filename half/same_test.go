package half

import (
	"math"
	"slices"
	"testing"

	"eddy/api"
)

// changes are half-edges with one thing other than in h.
func changes(h api.Half) []api.Half {
	l := []api.Half{
		as(h, func(h *api.Half) { h.Peer++ }),
		as(h, func(h *api.Half) { h.Peer ^= math.MinInt }),
		as(h, func(h *api.Half) { h.Boot++ }),
		as(h, func(h *api.Half) { h.Boot ^= 1 << 32 }),
		as(h, func(h *api.Half) { h.Boot ^= math.MinInt64 }),
		as(h, func(h *api.Half) { h.Life-- }),
		as(h, func(h *api.Half) { h.Life ^= 1 << 32 }),
		as(h, func(h *api.Half) { h.Life ^= math.MinInt64 }),
		as(h, func(h *api.Half) { h.Pending = !h.Pending }),
		as(h, func(h *api.Half) { h.Misses++ }),
		as(h, func(h *api.Half) { h.Misses ^= math.MinInt }),
		as(h, func(h *api.Half) { h.Lines = append(h.Lines, line("zzz", register(1, 2, 3))) }),
		as(h, func(h *api.Half) { h.Lines = append(h.Lines, api.Line{}) }),
		as(h, func(h *api.Half) { h.Lines = append([]api.Line{{}}, h.Lines...) }),
	}
	for i := range h.Lines {
		l = append(l,
			as(h, func(h *api.Half) { h.Lines = slices.Delete(h.Lines, i, i+1) }),
			as(h, func(h *api.Half) { h.Lines[i].Name += "0" }),
			as(h, func(h *api.Half) { h.Lines[i].Name = "" }),
			as(h, func(h *api.Half) { h.Lines[i].Reg.Ver++ }),
			as(h, func(h *api.Half) { h.Lines[i].Reg.Writer++ }),
			as(h, func(h *api.Half) { h.Lines[i].Reg.Flow++ }),
			as(h, func(h *api.Half) { h.Lines[i].Reg.Flow ^= math.MinInt64 }),
			as(h, func(h *api.Half) { h.Lines[i], h.Lines[0] = h.Lines[0], h.Lines[i] }),
		)
	}
	return l
}

// odds are half-edges that are fit, and such as are not.
func odds() []api.Half {
	return []api.Half{
		{}, bare(5), edge(5), edge(9), withLines(numbered(api.MaxChans)...), withLines(numbered(30)...),
		withLines(line("m", register(1, 2, 7)), line("a", api.Reg{}), line("\xff ", register(-1, 99, math.MinInt64))),
		{Peer: math.MinInt, Boot: math.MinInt64, Life: math.MaxInt64, Misses: math.MaxInt, Lines: []api.Line{{}, {}}},
		{Peer: -1, Boot: -1, Life: -1, Pending: true, Misses: -1},
	}
}

func TestP10_7SameTellsEveryFieldApart(t *testing.T) {
	for _, h := range odds() {
		if !Same([]api.Half{h}, []api.Half{apart(h)}) {
			t.Errorf("%+v and itself: false", h)
		}
		for _, other := range changes(h) {
			want := one(h, other)
			for _, pair := range [][2][]api.Half{
				{{h}, {other}},
				{{h, edge(9)}, {other, edge(9)}},
				{{edge(1), h}, {edge(1), other}},
				{{bare(1), h, edge(9)}, {bare(1), other, edge(9)}},
			} {
				if Same(pair[0], pair[1]) != want || Same(pair[1], pair[0]) != want {
					t.Errorf("%+v and %+v: %v", h, other, !want)
				}
			}
		}
	}
}

func TestP10_7SameOfLists(t *testing.T) {
	for a := range subsets(odds()[:5]) {
		for b := range subsets(odds()[:5]) {
			if Same(a, b) != alike(a, b) {
				t.Fatalf("%+v and %+v: %v", a, b, Same(a, b))
			}
		}
	}
	l := edges(1, 5, 9)
	turned := []api.Half{l[1], l[0], l[2]}
	if Same(l, turned) || Same(turned, l) || Same(l, l[:2]) || Same(l[1:], l) || Same(nil, l) || Same(l, []api.Half{}) {
		t.Error("unlike ones are the same")
	}
}

// A list that is nil and one that is empty are the same; what lies in spare room plays no part.
func TestP10_7SameOfNoneAndOfSpareRoom(t *testing.T) {
	if !Same(nil, nil) || !Same(nil, []api.Half{}) || !Same([]api.Half{}, nil) {
		t.Error("lists of none")
	}
	a, b := bare(5), bare(5)
	b.Lines = []api.Line{}
	if !Same([]api.Half{a}, []api.Half{b}) || !Same([]api.Half{b}, []api.Half{a}) {
		t.Error("no lines")
	}
	l, more := edges(1, 5), edges(1, 5, 9)
	cut := as(edge(5), func(h *api.Half) { h.Lines = h.Lines[:2] })
	short := withLines(slices.Clone(edge(5).Lines[:2])...)
	if !Same(l, more[:2]) || !Same(more[:2], l) || !Same([]api.Half{cut}, []api.Half{short}) {
		t.Error("spare room plays a part")
	}
}
