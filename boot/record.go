package boot

import (
	"eddy/api"
	"eddy/seal"
)

// mark is what tells a record's first sector from other bytes.
const mark = "EDDYBOOT"

// How many bytes a number and a sum have, and how many sectors a record.
const (
	numberSize = 8
	sumSize    = 4
	parts      = 2
)

type sector [api.SectorSize]byte

// record is the two sectors of a slot, whether a number stands there or not.
type record [parts]sector

// fit tells whether a number can have a record.
func fit(n int64) bool { return n >= 1 && n <= api.MaxBoot }

// recordOf is the record of a number that is fit.
func recordOf(n int64) record {
	var r record
	lay(r[0][:numberSize], uint64(n))
	copy(r[0][numberSize:], mark)
	lay(r[1][:sumSize], uint64(seal.Sum(r[0][:])))
	lay(r[1][sumSize:sumSize+numberSize], uint64(n))
	return r
}

// number is what stands in the sectors; 0: none. There is one form of a number's record, so what its first bytes tell
// is held against that as a whole.
func (r record) number() int64 {
	n := int64(told(r[0][:numberSize]))
	if !fit(n) || r != recordOf(n) {
		return 0
	}
	return n
}

// lay fills bytes with a number, the lowest first.
func lay(b []byte, n uint64) {
	for i := range b {
		b[i] = byte(n >> (8 * i))
	}
}

// told is the number that bytes tell, the lowest first.
func told(b []byte) uint64 {
	n := uint64(0)
	for i, c := range b {
		n |= uint64(c) << (8 * i)
	}
	return n
}
