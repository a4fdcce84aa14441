package code

import (
	"math"

	"eddy/api"
)

// lastShift is where the tenth byte of a number lies: of its bits the lowest alone still has room in 64.
const lastShift = 9 * group

// throw leaves the reading of a row; Read catches it.
func throw(e api.Errno) { panic(e) }

// caught is the error that was thrown. Anything else would be a fault of this package, and is not hidden as an error of the bytes.
func caught(thrown any) api.Errno {
	e, ok := thrown.(api.Errno)
	if !ok {
		panic(thrown)
	}
	return e
}

// place is a place in bytes: at of them lie behind it.
type place struct {
	bytes []byte
	at    int
}

// take goes over n bytes.
func (p *place) take(n uint64) []byte {
	if n > uint64(len(p.bytes)-p.at) { // a length may be greater than any int
		throw(api.ErrShort)
	}
	from := p.at
	p.at += int(n)
	return p.bytes[from:p.at]
}

// one goes over a byte.
func (p *place) one() byte { return p.take(1)[0] }

// reader reads fields from its place on.
type reader struct {
	place
}

// number reads a number from 0 on. A byte 0 has no byte behind it, so behind another one it is a last one that need not be.
func (r *reader) number() uint64 {
	x := uint64(0)
	for shift := 0; ; shift += group {
		c := r.one()
		if c == 0 && shift > 0 || c > 1 && shift == lastShift {
			throw(api.ErrForm)
		}
		x |= uint64(c&^more) << shift
		if c < more {
			return x
		}
	}
}

// natural reads a number from 0 on that is to be a Num.
func (r *reader) natural() int64 {
	x := r.number()
	if x > math.MaxInt64 {
		throw(api.ErrForm)
	}
	return int64(x)
}

// signed reads a number that was folded.
func (r *reader) signed() int64 {
	x := r.number()
	if x&1 == 1 {
		return int64(^(x >> 1))
	}
	return int64(x >> 1)
}

func (r *reader) text() string { return string(r.take(r.number())) }

func (r *reader) flag() bool {
	c := r.one()
	if c > 1 {
		throw(api.ErrForm)
	}
	return c == 1
}

// field reads a field of a kind.
func (r *reader) field(kind int) api.Field {
	f := api.Field{Kind: kind}
	switch kind {
	case api.FdNumber:
		f.Num = r.natural()
	case api.FdSigned:
		f.Num = r.signed()
	case api.FdText:
		f.Text = r.text()
	case api.FdFlag:
		f.Is = r.flag()
	default:
		throw(api.ErrKind)
	}
	return f
}

// Read reads a row of fields of these kinds.
func Read(b []byte, kinds []int) (l []api.Field, n int, err api.Errno) {
	defer func() {
		if thrown := recover(); thrown != nil {
			l, n, err = nil, 0, caught(thrown)
		}
	}()
	r := reader{place{bytes: b}}
	for _, kind := range kinds {
		l = append(l, r.field(kind))
	}
	return l, r.at, api.OK
}
