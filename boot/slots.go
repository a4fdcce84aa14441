package boot

import (
	"iter"

	"eddy/api"
	"eddy/disk"
)

// slots is what the two slots hold.
type slots [Sectors / parts]record

// load reads the slots. That the power is gone, or that sectors are missing, the disk tells by itself, in the order in
// which the errors are asked for.
func load(d *disk.Disk) (slots, api.Errno) {
	var s slots
	for at := range s {
		for part := range s[at] {
			b, err := d.Read(place(at, part))
			if err != api.OK {
				return slots{}, err
			}
			s[at][part] = sector(b)
		}
	}
	return s, api.OK
}

// store writes a slot. The sum goes last, so that half a record is none.
func store(d *disk.Disk, at int, r record) api.Errno {
	for part, b := range r {
		if err := d.Write(place(at, part), b[:]); err != api.OK {
			return err
		}
	}
	return api.OK
}

// place is the sector in which a part of a slot lies.
func place(at, part int) int { return at*parts + part }

// numbers hands out the slots with the numbers that stand in them.
func (s slots) numbers() iter.Seq2[int, int64] {
	return func(yield func(int, int64) bool) {
		for at, r := range s {
			if !yield(at, r.number()) {
				return
			}
		}
	}
}

// last is the greatest number that stands.
func (s slots) last() int64 {
	last := int64(0)
	for _, n := range s.numbers() {
		last = max(last, n)
	}
	return last
}

// lesser is the slot with the least number, of slots alike the first one.
func (s slots) lesser() int {
	slot, least := 0, api.MaxBoot
	for at, n := range s.numbers() {
		if n < least {
			slot, least = at, n
		}
	}
	return slot
}
