package ext

import (
	"cmp"

	"eddy/api"
)

// holding is the one of two that stands first by a comparison.
func holding[T any](a, b T, compare func(a, b T) int) T {
	if compare(b, a) < 0 {
		return b
	}
	return a
}

// ranking compares extreme values, by a comparison of their Values. It goes on through all their parts, so that of two
// neither stands ahead only if they are the same: no answer hangs on which one is named first.
func ranking(values func(x, y int64) int) func(a, b api.Ext) int {
	return func(a, b api.Ext) int {
		switch {
		case a.Has && !b.Has:
			return -1
		case !a.Has && b.Has:
			return 1
		}
		return cmp.Or(values(a.Value, b.Value), cmp.Compare(a.Age, b.Age), cmp.Compare(a.Origin, b.Origin))
	}
}

// foreign is a value, if it is somebody else's; of the node's own it is none.
func foreign(id int, e api.Ext) api.Ext {
	if e.Origin == id {
		return api.Ext{}
	}
	return e
}

// within tells whether x is from least to most.
func within[N cmp.Ordered](x, least, most N) bool { return least <= x && x <= most }
