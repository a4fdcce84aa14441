package disk

import (
	"bytes"
	"slices"
	"testing"

	"eddy/api"
)

func TestExample1(t *testing.T) {
	if New(0) != nil || New(65) != nil || Load(make([]byte, 15)) != nil {
		t.Error("disks that can't be")
	}
	d := New(4)
	is(t, "New(4)", d, make([]byte, 64))
	if b, err := d.Read(4); b != nil || err != api.ErrNumber {
		t.Errorf("Read(4): %x, %v", b, err)
	}
}

func TestExample2(t *testing.T) {
	d := New(4)
	d.Cut(1)
	written(t, "the one that goes through", d, 0, 7, api.OK)
	written(t, "the next one", d, 1, 8, api.ErrDead)
	if !d.Dead() {
		t.Error("the power is there")
	}
	if b, err := d.Read(0); b != nil || err != api.ErrDead {
		t.Errorf("Read without power: %x, %v", b, err)
	}
	d.On()
	if b, err := d.Read(0); !bytes.Equal(b, filled(7)) || err != api.OK {
		t.Errorf("Read(0): %x, %v", b, err)
	}
	if b, err := d.Read(1); !bytes.Equal(b, filled(0)) || err != api.OK {
		t.Errorf("Read(1): %x, %v", b, err)
	}
	if d.Writes() != 1 {
		t.Errorf("Writes: %d", d.Writes())
	}
}

func TestExample3(t *testing.T) {
	d := New(4)
	d.Cut(0)
	d.Cut(-1)
	for i := range 9 {
		written(t, "no cut", d, i%4, byte(i), api.OK)
	}
	d.Cut(0)
	written(t, "no sector", d, 9, 1, api.ErrNumber)
	if err := d.Write(0, []byte("abc")); err != api.ErrForm {
		t.Errorf("Write of 3 bytes: %v", err)
	}
	if d.Dead() {
		t.Error("the power is gone")
	}
}

func TestExample4(t *testing.T) {
	d := without(t, mixed(64))
	d.Cut(1)
	d.On()
	written(t, "the one that goes through", d, 2, 5, api.OK)
	written(t, "the next one", d, 3, 5, api.ErrDead)
}

func TestP7_1New(t *testing.T) {
	for _, n := range []int{least, least + 1, -1 << 32, -65, -64, -2, -1, 0, 65, 66, 128, 1024, 1<<32 - 1, 1 << 32, 1<<32 + 1, 1<<32 + 64, 1 << 60, greatest - 1, greatest} {
		if d := New(n); d != nil {
			t.Errorf("New(%d): %d sectors", n, d.Sectors())
		}
	}
	for n := 1; n <= 64; n++ {
		d := New(n)
		if d == nil {
			t.Fatalf("New(%d): none", n)
		}
		alike(t, d, newModel(make([]byte, 16*n)))
		for i := range 70 {
			written(t, "no cut is set", d, i%n, 1, api.OK)
		}
	}
}

func TestP7_1DisksShareNothing(t *testing.T) {
	a, b := New(2), New(2)
	a.Cut(1)
	written(t, "one", a, 0, 1, api.OK)
	written(t, "one", a, 1, 1, api.ErrDead)
	alike(t, b, newModel(make([]byte, 32)))
	written(t, "the other", b, 1, 2, api.OK)
	is(t, "one", a, slices.Concat(filled(1), filled(0)))
	is(t, "the other", b, slices.Concat(filled(0), filled(2)))
}

func TestP7_2Load(t *testing.T) {
	if Load(nil) != nil || Load([]byte{}) != nil || Load(make([]byte, 0, 64)) != nil {
		t.Error("a disk of no bytes")
	}
	for n := range 1200 {
		image := mixed(n)
		kept := slices.Clone(image)
		d := Load(image)
		if can := n%16 == 0 && n >= 16 && n <= 1024; (d != nil) != can {
			t.Fatalf("Load of %d bytes: a disk: %t", n, d != nil)
		}
		if d != nil {
			alike(t, d, newModel(image))
		}
		if !bytes.Equal(image, kept) {
			t.Fatalf("Load of %d bytes has changed them", n)
		}
	}
	for _, n := range []int{2048, 1 << 16, 1<<20 + 16, 16 * 64 * 64} {
		if Load(make([]byte, n)) != nil {
			t.Errorf("a disk of %d bytes", n)
		}
	}
}

// What lies behind an image in its memory plays no part, and stays.
func TestP7_2SpareRoom(t *testing.T) {
	for _, n := range []int{0, 15, 16, 17, 32, 1008, 1024} {
		room := mixed(2000)
		kept := slices.Clone(room)
		d, plain := Load(room[:n]), Load(slices.Clip(slices.Clone(room[:n])))
		if (d == nil) != (plain == nil) {
			t.Fatalf("Load of %d bytes hangs on what lies behind them", n)
		}
		is(t, "with spare room", d, plain.Image())
		if d != nil {
			written(t, "with spare room", d, d.Sectors()-1, 0, api.OK)
			written(t, "with spare room", d, d.Sectors(), 0, api.ErrNumber)
		}
		if !bytes.Equal(room, kept) {
			t.Errorf("Load of %d bytes, and a write: the memory is changed", n)
		}
	}
}

func TestP7_3Read(t *testing.T) {
	for _, sectors := range []int{1, 2, 4, 63, 64} {
		image := mixed(16 * sectors)
		d, dead := Load(image), without(t, image)
		for _, at := range []int{least, -65, -2, -1, sectors, sectors + 1, 64, 65, 1 << 28, 1 << 32, 1 << 60, 1<<60 + 1, greatest} {
			if b, err := d.Read(at); b != nil || err != api.ErrNumber {
				t.Errorf("%d sectors: Read(%d): %x, %v", sectors, at, b, err)
			}
			if b, err := dead.Read(at); b != nil || err != api.ErrDead {
				t.Errorf("%d sectors without power: Read(%d): %x, %v", sectors, at, b, err)
			}
		}
		for at := range sectors {
			if b, err := d.Read(at); !bytes.Equal(b, image[16*at:16*at+16]) || err != api.OK {
				t.Errorf("%d sectors: Read(%d): %x, %v", sectors, at, b, err)
			}
			if b, err := dead.Read(at); b != nil || err != api.ErrDead {
				t.Errorf("%d sectors without power: Read(%d): %x, %v", sectors, at, b, err)
			}
		}
	}
}

// A cut that is due lets reads through: it is a write that finds the power gone.
func TestP7_3ReadsDoNotAskTheCut(t *testing.T) {
	d := Load(mixed(32))
	d.Cut(0)
	for range 5 {
		if b, err := d.Read(1); !bytes.Equal(b, mixed(32)[16:]) || err != api.OK || d.Dead() {
			t.Errorf("Read: %x, %v", b, err)
		}
	}
	d.Cut(1)
	for range 5 {
		d.Read(0)
		d.Read(7)
	}
	written(t, "behind reads", d, 0, 1, api.OK)
	written(t, "behind reads", d, 0, 2, api.ErrDead)
}

func TestP7_4Write(t *testing.T) {
	for _, sectors := range []int{1, 2, 4, 63, 64} {
		d := New(sectors)
		want := make([]byte, 16*sectors)
		for i := range 3 * sectors {
			at, b := (i*5+2)%sectors, mixed(300)[i%250:i%250+16]
			copy(want[16*at:], b)
			if err := d.Write(at, b); err != api.OK || d.Writes() != i+1 {
				t.Fatalf("Write(%d): %v, Writes %d", at, err, d.Writes())
			}
			is(t, "behind a write", d, want)
			if got, err := d.Read(at); !bytes.Equal(got, b) || err != api.OK {
				t.Fatalf("Read(%d): %x, %v", at, got, err)
			}
		}
	}
}

// The same bytes once more are a write as well.
func TestP7_4AWriteThatChangesNoByteCounts(t *testing.T) {
	d := New(1)
	d.Cut(3)
	for range 3 {
		written(t, "zeros on zeros", d, 0, 0, api.OK)
	}
	if d.Writes() != 3 {
		t.Errorf("Writes: %d", d.Writes())
	}
	written(t, "zeros on zeros", d, 0, 0, api.ErrDead)
}

// oddSectors are those that a disk of four has not.
func oddSectors() []int { return []int{least, -1, 4, 5, 64, 1 << 60, greatest} }

// oddWrites are bytes that are no sector's.
func oddWrites() [][]byte {
	return [][]byte{nil, {}, mixed(1), mixed(15), mixed(16)[:15], mixed(17), mixed(32), mixed(64), make([]byte, 0, 16)}
}

// P7.4 names the errors in a row: the first one that holds is told. P7.7: what is refused changes nothing.
func TestP7_4TheFirstErrorIsTold(t *testing.T) {
	image := mixed(64)
	for _, cut := range []int{-1, 0, 1, 5} {
		d, dead := Load(image), without(t, image)
		d.Cut(cut)
		refused := func(at int, b []byte, want api.Errno) {
			t.Helper()
			if err := d.Write(at, b); err != want {
				t.Errorf("Cut(%d), Write(%d, %x): %v, want %v", cut, at, b, err, want)
			}
			if err := dead.Write(at, b); err != api.ErrDead {
				t.Errorf("Write(%d, %x) without power: %v", at, b, err)
			}
			if d.Dead() || d.Writes() != 0 || !dead.Dead() || dead.Writes() != 0 {
				t.Errorf("Cut(%d), Write(%d, %x): Dead %t and %t", cut, at, b, d.Dead(), dead.Dead())
			}
			is(t, "behind a write that is refused", d, image)
			is(t, "behind a write without power", dead, image)
		}
		for _, at := range oddSectors() {
			refused(at, filled(1), api.ErrNumber)
			for _, b := range oddWrites() {
				refused(at, b, api.ErrNumber)
			}
		}
		for at := range 4 {
			for _, b := range oddWrites() {
				refused(at, b, api.ErrForm)
			}
		}
		for range max(cut, 0) {
			written(t, "what the cut lets through", d, 1, 1, api.OK)
		}
		if cut >= 0 {
			written(t, "what it does not", d, 1, 2, api.ErrDead)
		} else {
			written(t, "no cut", d, 1, 2, api.OK)
		}
	}
}

func TestP7_5Cut(t *testing.T) {
	for _, n := range []int{0, 1, 2, 3, 64, 300} {
		d := New(3)
		d.Cut(n)
		for i := range n {
			written(t, "what the cut lets through", d, i%3, byte(i), api.OK)
		}
		if d.Dead() {
			t.Fatalf("Cut(%d): the power is gone too early", n)
		}
		kept := d.Image()
		written(t, "the next one", d, n%3, 255, api.ErrDead)
		if !d.Dead() || d.Writes() != n {
			t.Errorf("Cut(%d): Dead %t, Writes %d", n, d.Dead(), d.Writes())
		}
		is(t, "the next one", d, kept)
	}
}

func TestP7_5TheGreatestCut(t *testing.T) {
	for _, n := range []int{greatest, greatest - 1, 1 << 62, 1 << 32, 1 << 31} {
		d := New(2)
		d.Cut(n)
		for i := range 1000 {
			written(t, "a cut far away", d, i%2, byte(i), api.OK)
		}
		if d.Dead() || d.Writes() != 1000 {
			t.Errorf("Cut(%d): Dead %t, Writes %d", n, d.Dead(), d.Writes())
		}
	}
}

func TestP7_5BelowZeroNoCutIsSet(t *testing.T) {
	for _, n := range []int{-1, -2, -64, -1 << 32, least + 1, least} {
		for _, first := range []int{0, 1, 5, greatest} {
			d := New(2)
			d.Cut(first)
			d.Cut(n)
			for i := range 12 {
				written(t, "no cut", d, i%2, byte(i), api.OK)
			}
			dead := without(t, mixed(32))
			dead.Cut(first)
			dead.Cut(n)
			if !dead.Dead() {
				t.Errorf("Cut(%d) has brought the power", n)
			}
			dead.On()
			for i := range 12 {
				written(t, "no cut behind On", dead, i%2, byte(i), api.OK)
			}
		}
	}
}

// A cut counts from when it was set; the writes that came ahead of it are nothing to it.
func TestP7_5TheLastCutHolds(t *testing.T) {
	for ahead := range 4 {
		for first := -1; first < 6; first++ {
			for between := range 4 {
				for last := range 4 {
					d, m := New(3), newModel(make([]byte, 48))
					write := func(times int) {
						for i := range times {
							both(t, d, m, call{do: doWrite, at: i % 3, b: filled(byte(i))})
						}
					}
					write(ahead)
					both(t, d, m, call{do: doCut, at: first})
					write(between)
					both(t, d, m, call{do: doCut, at: last})
					write(6)
					alike(t, d, m)
					if first < 0 || between <= first {
						if want := ahead + between + last; d.Writes() != want || !d.Dead() {
							t.Errorf("Cut(%d), %d writes, Cut(%d): Writes %d, want %d", first, between, last, d.Writes(), want)
						}
					}
				}
			}
		}
	}
}

// Neither writes that are refused nor reads use the cut up.
func TestP7_5OnlyWritesThatAreDoneCount(t *testing.T) {
	d := New(4)
	d.Cut(2)
	for i := range 2 {
		for _, at := range oddSectors() {
			written(t, "no sector", d, at, 1, api.ErrNumber)
		}
		for _, b := range oddWrites() {
			if err := d.Write(0, b); err != api.ErrForm {
				t.Errorf("Write of %d bytes: %v", len(b), err)
			}
		}
		d.Read(0)
		d.Read(-1)
		d.Image()
		written(t, "what the cut lets through", d, i, 1, api.OK)
	}
	written(t, "behind them", d, 3, 1, api.ErrDead)
	if d.Writes() != 2 {
		t.Errorf("Writes: %d", d.Writes())
	}
}

// What is asked of a disk without power does not use up the cut that counts from On on.
func TestP7_5ACutSetWithoutPowerCountsFromOn(t *testing.T) {
	for n := range 5 {
		d := without(t, mixed(32))
		d.Cut(n)
		for range 4 {
			written(t, "without power", d, 0, 1, api.ErrDead)
			d.Read(0)
		}
		d.On()
		if d.Dead() {
			t.Fatal("the power is gone behind On")
		}
		for range n {
			written(t, "what the cut lets through", d, 0, 1, api.OK)
		}
		written(t, "the next one", d, 0, 2, api.ErrDead)
		if d.Writes() != n || !d.Dead() {
			t.Errorf("Cut(%d): Writes %d", n, d.Writes())
		}
		d.On()
		for range 8 {
			written(t, "behind a second On", d, 0, 2, api.OK)
		}
	}
}

func TestP7_5TheLastCutWithoutPowerHolds(t *testing.T) {
	d := without(t, mixed(32))
	d.Cut(5)
	d.Cut(0)
	d.Cut(2)
	d.On()
	written(t, "the first", d, 0, 1, api.OK)
	written(t, "the second", d, 0, 1, api.OK)
	written(t, "the third", d, 0, 1, api.ErrDead)
}

// A cut that was set with power is taken away by On, whether the power has gone since or not.
func TestP7_5OnTakesACutAway(t *testing.T) {
	for n := range 4 {
		for done := range n + 2 {
			d := New(2)
			d.Cut(n)
			for i := range done {
				d.Write(i%2, filled(1))
			}
			if d.Dead() != (done > n) {
				t.Fatalf("Cut(%d), %d writes: Dead %t", n, done, d.Dead())
			}
			d.On()
			if d.Dead() {
				t.Fatal("the power is gone behind On")
			}
			for range 8 {
				written(t, "behind On", d, 0, 1, api.OK)
			}
		}
	}
}

func TestP7_5ASecondOnTakesACutAway(t *testing.T) {
	for n := range 4 {
		for done := range n + 1 {
			d := without(t, mixed(32))
			d.Cut(n)
			d.On()
			for range done {
				written(t, "between them", d, 0, 1, api.OK)
			}
			d.On()
			for range 8 {
				written(t, "behind a second On", d, 0, 1, api.OK)
			}
		}
	}
}

// A cut is one that was set without power for one On alone; one set anew with power does not become it.
func TestP7_5ACutSetAnewWithPower(t *testing.T) {
	d := without(t, mixed(32))
	d.Cut(3)
	d.On()
	d.Cut(1)
	written(t, "the one that goes through", d, 0, 1, api.OK)
	written(t, "the next one", d, 0, 1, api.ErrDead)
	d.On()
	for range 5 {
		written(t, "behind On", d, 0, 1, api.OK)
	}
	d.Cut(2)
	d.On()
	for range 5 {
		written(t, "behind another On", d, 0, 1, api.OK)
	}
}

// On of a disk with power changes nothing but the cut.
func TestP7_5OnWithPower(t *testing.T) {
	image := mixed(48)
	d := Load(image)
	d.On()
	alike(t, d, newModel(image))
	d.On()
	d.On()
	alike(t, d, newModel(image))
	written(t, "behind On", d, 1, 1, api.OK)
	d.On()
	if d.Writes() != 1 || d.Sectors() != 3 || d.Dead() {
		t.Errorf("Writes %d, Sectors %d, Dead %t", d.Writes(), d.Sectors(), d.Dead())
	}
	is(t, "behind On", d, slices.Concat(image[:16], filled(1), image[32:]))
}

func TestP7_6Told(t *testing.T) {
	image := mixed(64)
	d := Load(image)
	for range 3 {
		if d.Dead() || d.Sectors() != 4 || d.Writes() != 0 {
			t.Errorf("Dead %t, Sectors %d, Writes %d", d.Dead(), d.Sectors(), d.Writes())
		}
		is(t, "Image", d, image)
	}
	d.Cut(2)
	written(t, "the first", d, 3, 1, api.OK)
	written(t, "the second", d, 3, 2, api.OK)
	written(t, "the third", d, 3, 3, api.ErrDead)
	for range 3 {
		if !d.Dead() || d.Sectors() != 4 || d.Writes() != 2 {
			t.Errorf("without power: Dead %t, Sectors %d, Writes %d", d.Dead(), d.Sectors(), d.Writes())
		}
		is(t, "Image without power", d, slices.Concat(image[:48], filled(2)))
	}
	d.On()
	written(t, "behind On", d, 0, 4, api.OK)
	if d.Dead() || d.Writes() != 3 {
		t.Errorf("behind On: Dead %t, Writes %d", d.Dead(), d.Writes())
	}
}

// A write that is done changes its own sector, and no byte beside it.
func TestP7_7AWriteChangesOneSector(t *testing.T) {
	image := mixed(1024)
	for at := range 64 {
		d := Load(image)
		written(t, "one sector", d, at, byte(at*3), api.OK)
		is(t, "one sector", d, slices.Concat(image[:16*at], filled(byte(at*3)), image[16*at+16:]))
	}
}

func TestP7_8BehindACut(t *testing.T) {
	for n := range 7 {
		d, free := Load(mixed(64)), Load(mixed(64))
		d.Cut(n)
		for i := range n {
			written(t, "a good one", d, i%4, byte(i), api.OK)
			free.Write(i%4, filled(byte(i)))
		}
		for i := range 9 {
			written(t, "behind them", d, (n+i)%4, 200, api.ErrDead)
			if b, err := d.Read(i % 5); b != nil || err != api.ErrDead {
				t.Errorf("Read: %x, %v", b, err)
			}
			if err := d.Write(-1, nil); err != api.ErrDead {
				t.Errorf("Write of no sector: %v", err)
			}
			d.Cut(i - 1)
			is(t, "without power", d, free.Image())
		}
		d.Cut(-1)
		d.On()
		for i := range 4 {
			b, err := d.Read(i)
			if want, _ := free.Read(i); !bytes.Equal(b, want) || err != api.OK {
				t.Errorf("Read(%d) behind On: %x, %v", i, b, err)
			}
		}
	}
}

// A disk that was loaded from an Image has its bytes, and nothing else of it: it has power, no cut, and no writes.
func TestP7_9LoadOfAnImage(t *testing.T) {
	for n := 1; n <= 64; n++ {
		d := Load(mixed(16 * n))
		d.Cut(1)
		written(t, "one", d, n/2, 9, api.OK)
		again := Load(d.Image())
		alike(t, again, newModel(d.Image()))
		for i := range 3 {
			written(t, "no cut", again, i%n, 8, api.OK)
		}
		if d.Writes() != 1 || again.Writes() != 3 {
			t.Errorf("Writes: %d, %d", d.Writes(), again.Writes())
		}
		written(t, "one", d, 0, 7, api.ErrDead)
		again = Load(d.Image())
		alike(t, again, newModel(d.Image()))
		if again.Dead() || !d.Dead() {
			t.Error("power that comes with an image")
		}
	}
}

// scrawl writes over all of a slice's memory.
func scrawl(b []byte) {
	b = b[:cap(b)]
	for i := range b {
		b[i] ^= 0xa5
	}
}

func TestP7_9NothingIsShared(t *testing.T) {
	image := mixed(64)
	handed := slices.Clone(image)
	d := Load(handed)
	scrawl(handed)
	is(t, "the image that was handed in", d, image)
	b := append(make([]byte, 0, 40), filled(1)...)
	if err := d.Write(2, b); err != api.OK {
		t.Fatal(err)
	}
	scrawl(b)
	want := slices.Concat(image[:32], filled(1), image[48:])
	is(t, "bytes that were written", d, want)
	scrawl(d.Image())
	is(t, "an image that was handed out", d, want)
	first, _ := d.Read(2)
	scrawl(first)
	second, _ := d.Read(2)
	if !bytes.Equal(second, filled(1)) {
		t.Errorf("Read behind a change of what it told: %x", second)
	}
	is(t, "bytes that were read", d, want)
	before, read := d.Image(), second
	written(t, "another one", d, 2, 3, api.OK)
	if !bytes.Equal(before, want) || !bytes.Equal(read, filled(1)) {
		t.Errorf("a write has changed what was told ahead of it: %x, %x", before, read)
	}
	one, two := d.Image(), d.Image()
	scrawl(one)
	is(t, "two images", d, two)
}

// A disk that nobody gave answers as one without power, whatever it is told, and stays so.
func TestDisksThatAreNotGiven(t *testing.T) {
	plain := &Disk{}
	for _, d := range []*Disk{nil, plain, new(Disk)} {
		for range 3 {
			for _, at := range []int{least, -1, 0, 1, 63, 64, greatest} {
				if b, err := d.Read(at); b != nil || err != api.ErrDead {
					t.Errorf("Read(%d): %x, %v", at, b, err)
				}
				for _, b := range append(oddWrites(), filled(1)) {
					if err := d.Write(at, b); err != api.ErrDead {
						t.Errorf("Write(%d): %v", at, err)
					}
				}
				d.Cut(at)
				if !d.Dead() || d.Sectors() != 0 || d.Writes() != 0 || d.Image() != nil {
					t.Errorf("Dead %t, Sectors %d, Writes %d, Image %x", d.Dead(), d.Sectors(), d.Writes(), d.Image())
				}
				d.On()
			}
		}
	}
	if plain.supply != (supply{}) || plain.list != nil || plain.writes != 0 {
		t.Errorf("a plain Disk keeps what it was told: %#v", plain)
	}
}
