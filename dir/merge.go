package dir

import (
	"cmp"
	"iter"

	"eddy/api"
)

// found is a record, or none.
type found struct {
	record
	is bool
}

// pulled gives a list's records, one a call, and none from its end on.
func pulled(l []api.Chan) func() found {
	at := 0
	return func() found {
		if at == len(l) {
			return found{}
		}
		at++
		return found{of(l[at-1]), true}
	}
}

// order is which one of two rising lists goes on, by what each has next: below 0 the first, above 0 the second, 0 both.
func order(a, b found) int {
	switch {
	case !b.is:
		return -1
	case !a.is:
		return 1
	}
	return cmp.Compare(a.name, b.name)
}

// byName hands out what two rising lists have of each name, in the order of names.
func byName(l, more []api.Chan) iter.Seq2[found, found] {
	return func(yield func(mine, told found) bool) {
		first, second := pulled(l), pulled(more)
		a, b := first(), second()
		for a.is || b.is {
			var mine, told found
			which := order(a, b)
			if which <= 0 {
				mine, a = a, first()
			}
			if which >= 0 {
				told, b = b, second()
			}
			if !yield(mine, told) {
				return
			}
		}
	}
}

// learn is a list with what it learns of another one, and what became of the last record that was told; 0: none was.
func learn(l, more []api.Chan) ([]api.Chan, int) {
	var held []api.Chan
	room, what := api.MaxChans-len(l), 0
	for mine, told := range byName(l, more) {
		stands := mine
		if told.is {
			what = verdict(mine, told, room)
			switch what {
			case api.LnAdded:
				room--
				stands = told
			case api.LnNewer:
				stands = told
			}
		}
		if stands.is {
			held = append(held, stands.plain())
		}
	}
	return held, what
}

// verdict is what becomes of a record that is told, beside what is there of its name, with room for so many names more.
func verdict(mine, told found, room int) int {
	switch {
	case !mine.is && room > 0:
		return api.LnAdded
	case !mine.is:
		return api.LnFull
	case told.newer(mine.stamp):
		return api.LnNewer
	case mine.newer(told.stamp):
		return api.LnOlder
	}
	return api.LnSame
}
