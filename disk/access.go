package disk

import "eddy/api"

type reader interface {
	read(at int) ([]byte, api.Errno)
}

type writer interface {
	write(at int, b []byte) api.Errno
}

// access is who reads and writes.
type access interface {
	reader
	writer
}

// who reads and writes hangs on the power.
func (d *Disk) who() access {
	if d.Dead() {
		return off{}
	}
	return live{d}
}

// off is who finds the power gone.
type off struct{}

func (off) read(int) ([]byte, api.Errno) { return nil, api.ErrDead }

func (off) write(int, []byte) api.Errno { return api.ErrDead }

// live is who finds the power there.
type live struct{ *Disk }

func (l live) has(at int) bool { return at >= 0 && at < len(l.list) }

func (l live) read(at int) ([]byte, api.Errno) {
	if !l.has(at) {
		return nil, api.ErrNumber
	}
	own := l.list[at] // a copy, so that nobody else holds the disk's bytes
	return own[:], api.OK
}

// write asks the cut last of all, as only a write that is good may find the power gone.
func (l live) write(at int, b []byte) api.Errno {
	if !l.has(at) {
		return api.ErrNumber
	}
	if len(b) != api.SectorSize {
		return api.ErrForm
	}
	if !l.lets() {
		return api.ErrDead
	}
	l.list[at] = block(b)
	l.writes++
	return api.OK
}
