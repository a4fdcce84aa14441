package disk

import (
	"bytes"
	"math"
	"math/rand"
	"slices"
	"testing"

	"eddy/api"
)

const (
	least    = math.MinInt
	greatest = math.MaxInt
)

// What a disk was told, or what came about.
const (
	doRead = iota
	doWrite
	doCut
	doOn
	wentOff
)

// call is one call of a disk, or what came of one.
type call struct {
	do   int
	at   int // the sector, or the number that Cut was told
	b    []byte
	dead bool // whether the power was gone then
}

// The disk by the document's words: its bytes, and all that came about, in a row, on which it looks back whenever it is asked.
type model struct {
	image []byte
	past  []call
}

func newModel(image []byte) *model { return &model{image: slices.Clone(image)} }

func (m *model) dead() bool {
	for _, c := range slices.Backward(m.past) {
		if c.do == doOn || c.do == wentOff {
			return c.do == wentOff
		}
	}
	return false
}

// count is how often something came about behind a place of the past.
func (m *model) count(do, behind int) int {
	n := 0
	for _, c := range m.past[behind+1:] {
		if c.do == do {
			n++
		}
	}
	return n
}

// due tells whether the next good write finds the power gone.
func (m *model) due() bool {
	last := -1
	for i, c := range m.past {
		if c.do == doCut {
			last = i
		}
	}
	if last < 0 || m.past[last].at < 0 {
		return false
	}
	survives := 0
	if m.past[last].dead {
		survives = 1
	}
	return m.count(doOn, last) <= survives && m.count(doWrite, last) == m.past[last].at
}

func (m *model) read(at int) ([]byte, api.Errno) {
	if m.dead() {
		return nil, api.ErrDead
	}
	if at < 0 || at > len(m.image)/16-1 {
		return nil, api.ErrNumber
	}
	return m.image[16*at : 16*at+16], api.OK
}

func (m *model) write(at int, b []byte) api.Errno {
	if m.dead() {
		return api.ErrDead
	}
	if at < 0 || at > len(m.image)/16-1 {
		return api.ErrNumber
	}
	if len(b) != 16 {
		return api.ErrForm
	}
	if m.due() {
		m.past = append(m.past, call{do: wentOff})
		return api.ErrDead
	}
	m.past = append(m.past, call{do: doWrite})
	copy(m.image[16*at:], b)
	return api.OK
}

func (m *model) cut(writes int) {
	m.past = append(m.past, call{do: doCut, at: writes, dead: m.dead()})
}

func (m *model) on() { m.past = append(m.past, call{do: doOn}) }

// both tells a disk and the model one call, and holds their answers against each other.
func both(t *testing.T, d *Disk, m *model, c call) {
	t.Helper()
	switch c.do {
	case doRead:
		got, err := d.Read(c.at)
		want, asked := m.read(c.at)
		if !bytes.Equal(got, want) || err != asked || err != api.OK && got != nil {
			t.Fatalf("Read(%d): %x, %v, want %x, %v", c.at, got, err, want, asked)
		}
	case doWrite:
		handed := slices.Clone(c.b)
		err, asked := d.Write(c.at, c.b), m.write(c.at, c.b)
		if err != asked || !bytes.Equal(handed, c.b) {
			t.Fatalf("Write(%d, %x): %v, want %v; what was handed in is now %x", c.at, handed, err, asked, c.b)
		}
	case doCut:
		d.Cut(c.at)
		m.cut(c.at)
	case doOn:
		d.On()
		m.on()
	}
}

// alike holds all that a disk tells against the model.
func alike(t *testing.T, d *Disk, m *model) {
	t.Helper()
	if got := d.Image(); !bytes.Equal(got, m.image) {
		t.Fatalf("Image: %x, want %x", got, m.image)
	}
	if d.Dead() != m.dead() {
		t.Fatalf("Dead: %t", d.Dead())
	}
	if n, want := d.Writes(), m.count(doWrite, -1); n != want {
		t.Fatalf("Writes: %d, want %d", n, want)
	}
	if d.Sectors() != len(m.image)/16 {
		t.Fatalf("Sectors: %d", d.Sectors())
	}
	for at := -1; at <= len(m.image)/16; at++ {
		both(t, d, m, call{do: doRead, at: at})
	}
}

// filled is sixteen bytes alike.
func filled(c byte) []byte { return bytes.Repeat([]byte{c}, 16) }

// mixed is bytes that are all but alike from place to place.
func mixed(n int) []byte {
	b := make([]byte, n)
	for i := range b {
		b[i] = byte(i*7 + i/16 + 1)
	}
	return b
}

// is asks for a disk of these bytes.
func is(t *testing.T, what string, d *Disk, image []byte) {
	t.Helper()
	if got := d.Image(); !bytes.Equal(got, image) {
		t.Errorf("%s: %x, want %x", what, got, image)
	}
}

// written writes sixteen bytes alike, and asks for an error.
func written(t *testing.T, what string, d *Disk, at int, c byte, want api.Errno) {
	t.Helper()
	if err := d.Write(at, filled(c)); err != want {
		t.Errorf("%s: Write(%d): %v, want %v", what, at, err, want)
	}
}

// without is a disk of these bytes without power: its last write found it gone.
func without(t *testing.T, image []byte) *Disk {
	t.Helper()
	d := Load(image)
	d.Cut(0)
	written(t, "a disk without power", d, 0, 99, api.ErrDead)
	if !d.Dead() {
		t.Fatal("the power is there")
	}
	return d
}

// Every row of a few calls, on a disk of two sectors.
func TestRowsOfCalls(t *testing.T) {
	calls := []call{
		{do: doWrite, at: 0, b: filled(1)},
		{do: doWrite, at: 1, b: filled(2)},
		{do: doWrite, at: 2, b: filled(3)},
		{do: doWrite, at: 1, b: filled(4)[:15]},
		{do: doCut, at: -1},
		{do: doCut, at: 0},
		{do: doCut, at: 1},
		{do: doCut, at: 2},
		{do: doOn},
	}
	const length = 5
	image := mixed(32)
	rows := 1
	for range length {
		rows *= len(calls)
	}
	for row := range rows {
		d, m := Load(image), newModel(image)
		for rest, i := row, 0; i < length; rest, i = rest/len(calls), i+1 {
			both(t, d, m, calls[rest%len(calls)])
		}
		alike(t, d, m)
		if t.Failed() {
			t.Fatalf("row %d", row)
		}
	}
}

// Cuts and power without writes between them, and then writes until there is no doubt which cut holds.
func TestP7_5RowsOfCutsAndPower(t *testing.T) {
	calls := []call{{do: doCut, at: least}, {do: doCut, at: 0}, {do: doCut, at: 1}, {do: doCut, at: 3}, {do: doOn}}
	image := mixed(48)
	for row := range 5 * 5 * 5 * 5 * 5 {
		for _, dead := range []bool{false, true} {
			d, m := Load(image), newModel(image)
			if dead {
				both(t, d, m, call{do: doCut})
				both(t, d, m, call{do: doWrite, b: filled(1)})
			}
			for rest, i := row, 0; i < 5; rest, i = rest/5, i+1 {
				both(t, d, m, calls[rest%5])
			}
			for i := range 5 {
				both(t, d, m, call{do: doWrite, at: i % 3, b: filled(byte(i))})
			}
			alike(t, d, m)
			if t.Failed() {
				t.Fatalf("row %d, without power: %t", row, dead)
			}
		}
	}
}

// randomCall is one that is mostly good.
func randomCall(r *rand.Rand, sectors int) call {
	at := r.Intn(sectors)
	if r.Intn(8) == 0 {
		odd := []int{least, -1, sectors, sectors + 1, 64, greatest}
		at = odd[r.Intn(len(odd))]
	}
	switch r.Intn(10) {
	case 0, 1:
		return call{do: doRead, at: at}
	case 2:
		cuts := []int{least, -1, 0, 1, 2, 3, 5, greatest}
		return call{do: doCut, at: cuts[r.Intn(len(cuts))]}
	case 3, 4:
		return call{do: doOn}
	case 5:
		b := make([]byte, r.Intn(34))
		r.Read(b)
		return call{do: doWrite, at: at, b: b}
	}
	b := make([]byte, 16, 16+r.Intn(4))
	r.Read(b)
	return call{do: doWrite, at: at, b: b}
}

func TestLongRows(t *testing.T) {
	r := rand.New(rand.NewSource(7))
	for range 2000 {
		sectors := []int{1, 2, 3, 4, 63, 64}[r.Intn(6)]
		image := make([]byte, 16*sectors)
		r.Read(image)
		d, m := Load(image), newModel(image)
		for range r.Intn(80) {
			both(t, d, m, randomCall(r, sectors))
			if r.Intn(8) == 0 {
				alike(t, d, m)
			}
		}
		alike(t, d, m)
	}
}
