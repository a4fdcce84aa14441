package boot

import (
	"bytes"
	"encoding/binary"
	"hash/crc32"
	"math/rand"
	"slices"
	"testing"

	"eddy/api"
	"eddy/disk"
)

// built is the sectors of a record by the document's words, with the library's sum: of any number, also of one that has none.
func built(n uint64) []byte {
	first := append(binary.LittleEndian.AppendUint64(nil, n), "EDDYBOOT"...)
	second := append(binary.LittleEndian.AppendUint64(crc(first), n), 0, 0, 0, 0)
	return append(first, second...)
}

// crc is a sum's four bytes.
func crc(b []byte) []byte { return binary.LittleEndian.AppendUint32(nil, crc32.ChecksumIEEE(b)) }

// holding is the sectors of a slot in which a number stands; 0: none.
func holding(n int64) []byte {
	if n == 0 {
		return make([]byte, 32)
	}
	return built(uint64(n))
}

// standing is the number of which these two sectors are the record.
func standing(b []byte) int64 {
	n := binary.LittleEndian.Uint64(b)
	if n == 0 || n > 1<<40 || !bytes.Equal(b, built(n)) {
		return 0
	}
	return int64(n)
}

// model is a boot record by the document's words, on a twin of the disk that is told the same cuts.
type model struct {
	twin *disk.Disk
}

func (m model) slots() (int64, int64, api.Errno) {
	if m.twin.Dead() {
		return 0, 0, api.ErrDead
	}
	if m.twin.Sectors() < 4 {
		return 0, 0, api.ErrNumber
	}
	image := m.twin.Image()
	return standing(image[:32]), standing(image[32:64]), api.OK
}

func (m model) next() (int64, api.Errno) {
	a, b, err := m.slots()
	if err != api.OK {
		return 0, err
	}
	if a == 1<<40 || b == 1<<40 {
		return 0, api.ErrLast
	}
	at, n := 0, max(a, b)+1
	if b < a {
		at = 2
	}
	r := holding(n)
	for i := range 2 {
		if m.twin.Write(at+i, r[16*i:16*i+16]) != api.OK {
			return 0, api.ErrDead
		}
	}
	return n, api.OK
}

// What a row has in it.
const (
	doNext = iota
	doCut0
	doCut1
	doCut2
	doCut3
	doNoCut
	doOn
	doLoad
	numDo
)

// row is a disk with its model, and the greatest number that Next has told.
type row struct {
	d    *disk.Disk
	m    model
	told int64
}

func newRow(image []byte) *row {
	return &row{d: disk.Load(image), m: model{disk.Load(image)}}
}

// do tells the disk and the model one thing, and holds them against each other.
func (r *row) do(t *testing.T, what int) {
	t.Helper()
	switch what {
	case doNext:
		r.next(t)
	case doCut0, doCut1, doCut2, doCut3:
		r.d.Cut(what - doCut0)
		r.m.twin.Cut(what - doCut0)
	case doNoCut:
		r.d.Cut(-1)
		r.m.twin.Cut(-1)
	case doOn:
		r.d.On()
		r.m.twin.On()
	case doLoad:
		r.d, r.m.twin = disk.Load(r.d.Image()), disk.Load(r.m.twin.Image())
	}
}

func (r *row) next(t *testing.T) {
	t.Helper()
	ahead, writes := r.d.Image(), r.d.Writes()
	got, err := Next(r.d)
	want, asked := r.m.next()
	if got != want || err != asked {
		t.Fatalf("Next: %d, %v, want %d, %v", got, err, want, asked)
	}
	if r.d.Dead() != r.m.twin.Dead() || r.d.Writes() != r.m.twin.Writes() || !bytes.Equal(r.d.Image(), r.m.twin.Image()) {
		t.Fatalf("behind Next: %x, want %x; Writes %d, want %d", r.d.Image(), r.m.twin.Image(), r.d.Writes(), r.m.twin.Writes())
	}
	if err == api.OK {
		if got <= r.told {
			t.Fatalf("P8.5: Next tells %d, and told %d", got, r.told)
		}
		r.told = got
		if r.d.Writes() != writes+2 {
			t.Fatalf("P8.6: %d writes", r.d.Writes()-writes)
		}
	}
	r.changed(t, ahead)
}

// changed asks what P8.6 and P8.7 say of the bytes behind a Next.
func (r *row) changed(t *testing.T, ahead []byte) {
	t.Helper()
	behind := r.d.Image()
	if !bytes.Equal(ahead[:32], behind[:32]) && !bytes.Equal(ahead[32:64], behind[32:64]) || !bytes.Equal(ahead[64:], behind[64:]) {
		t.Fatalf("P8.6: more than one slot is written: %x, then %x", ahead, behind)
	}
	was, is := lastOf(ahead), lastOf(behind)
	if is != was && is != was+1 {
		t.Fatalf("P8.7: Last was %d, and is %d", was, is)
	}
	if is < r.told {
		t.Fatalf("P8.5: Last is %d behind %d, which was told", is, r.told)
	}
}

// lastOf is the greatest number that stands in an image.
func lastOf(image []byte) int64 { return max(standing(image[:32]), standing(image[32:64])) }

// alike holds what Slots and Last tell against the model, and asks that they change nothing.
func (r *row) alike(t *testing.T) {
	t.Helper()
	ahead, writes, dead := r.d.Image(), r.d.Writes(), r.d.Dead()
	a, b, err := Slots(r.d)
	x, y, asked := r.m.slots()
	if a != x || b != y || err != asked {
		t.Fatalf("Slots: %d, %d, %v, want %d, %d, %v", a, b, err, x, y, asked)
	}
	if n, err := Last(r.d); n != max(x, y) || err != asked {
		t.Fatalf("Last: %d, %v, want %d, %v", n, err, max(x, y), asked)
	}
	if !bytes.Equal(ahead, r.d.Image()) || writes != r.d.Writes() || dead != r.d.Dead() {
		t.Fatal("Slots or Last has changed the disk")
	}
}

// starts are images with which rows begin: slots in all their orders, and halves of records in them.
func starts() [][]byte {
	junk := bytes.Repeat([]byte{0xa5}, 16)
	halves := func(first, second int64) []byte {
		return slices.Concat(holding(first)[:16], holding(second)[16:])
	}
	return [][]byte{
		make([]byte, 64),
		slices.Concat(holding(1), holding(0)),
		slices.Concat(holding(0), holding(1)),
		slices.Concat(holding(7), holding(7)),
		slices.Concat(holding(7), holding(8), junk),
		slices.Concat(holding(255), holding(3)),
		slices.Concat(holding(1<<40-2), holding(1<<40-3)),
		slices.Concat(holding(1<<40-1), holding(5)),
		slices.Concat(holding(5), holding(1<<40)),
		slices.Concat(halves(9, 5), holding(4)),
		slices.Concat(halves(5, 9), holding(4)),
		slices.Concat(holding(4), junk, holding(5)[16:]),
		slices.Concat(halves(1, 2), halves(2, 1), holding(99)),
		slices.Concat(junk, holding(1)[16:], junk, holding(2)[16:], junk, junk),
		bytes.Repeat([]byte{0xff}, 80),
	}
}

// Every row of a few things, from every start.
func TestRows(t *testing.T) {
	const length = 4
	rows := 1
	for range length {
		rows *= numDo
	}
	for i, image := range starts() {
		for number := range rows {
			r := newRow(image)
			for rest, k := number, 0; k < length; rest, k = rest/numDo, k+1 {
				r.do(t, rest%numDo)
				r.alike(t)
			}
			r.do(t, doOn)
			r.alike(t)
			r.do(t, doNext)
			r.alike(t)
		}
		if t.Failed() {
			t.Fatalf("start %d", i)
		}
	}
}

// Rows of Nexts, each cut off behind 0, 1, 2 or 3 writes, in all their orders, with On, or with On and Load of the Image, between them.
func TestP8_5RowsOfCuts(t *testing.T) {
	const length = 5
	for _, image := range starts() {
		for number := range 1 << (2 * length) {
			for _, between := range [][]int{{doOn}, {doOn, doOn}, {doLoad}, {doOn, doLoad}, {}} {
				r := newRow(image)
				for k := range length {
					r.do(t, doCut0+number>>(2*k)&3)
					r.do(t, doNext)
					for _, what := range between {
						r.do(t, what)
					}
				}
				r.do(t, doOn)
				r.do(t, doOn)
				r.do(t, doNext)
				r.alike(t)
			}
		}
	}
}

func TestP8_5LongRows(t *testing.T) {
	random := rand.New(rand.NewSource(8))
	for range 3000 {
		image := bytes.Clone(starts()[random.Intn(len(starts()))])
		for range random.Intn(3) {
			at := 16 * random.Intn(4)
			copy(image[at:at+16], built(uint64(random.Intn(12)))[16*random.Intn(2):])
		}
		r := newRow(image)
		for range random.Intn(60) {
			what := random.Intn(numDo)
			if random.Intn(2) == 0 {
				what = doNext
			}
			r.do(t, what)
			r.alike(t)
		}
	}
}
