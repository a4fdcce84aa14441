package boot

import (
	"bytes"
	"math"
	"slices"
	"testing"

	"eddy/api"
	"eddy/disk"
)

// slotsAre asks for what stands in the slots, and with it for Last.
func slotsAre(t *testing.T, what string, d *disk.Disk, a, b int64) {
	t.Helper()
	if x, y, err := Slots(d); x != a || y != b || err != api.OK {
		t.Errorf("%s: Slots: %d, %d, %v, want %d, %d", what, x, y, err, a, b)
	}
	if n, err := Last(d); n != max(a, b) || err != api.OK {
		t.Errorf("%s: Last: %d, %v, want %d", what, n, err, max(a, b))
	}
}

// nextIs asks for what Next tells.
func nextIs(t *testing.T, what string, d *disk.Disk, n int64, want api.Errno) {
	t.Helper()
	if got, err := Next(d); got != n || err != want {
		t.Errorf("%s: Next: %d, %v, want %d, %v", what, got, err, n, want)
	}
}

// imageIs asks for a disk's bytes.
func imageIs(t *testing.T, what string, d *disk.Disk, pieces ...[]byte) {
	t.Helper()
	if got, want := d.Image(), slices.Concat(pieces...); !bytes.Equal(got, want) {
		t.Errorf("%s: %x, want %x", what, got, want)
	}
}

// refusedAll asks for one error of everything that takes a disk, and that nothing is changed by it.
func refusedAll(t *testing.T, what string, d *disk.Disk, want api.Errno) {
	t.Helper()
	image, writes, dead := d.Image(), d.Writes(), d.Dead()
	if a, b, err := Slots(d); a != 0 || b != 0 || err != want {
		t.Errorf("%s: Slots: %d, %d, %v, want %v", what, a, b, err, want)
	}
	if n, err := Last(d); n != 0 || err != want {
		t.Errorf("%s: Last: %d, %v, want %v", what, n, err, want)
	}
	nextIs(t, what, d, 0, want)
	if !bytes.Equal(d.Image(), image) || d.Writes() != writes || d.Dead() != dead {
		t.Errorf("%s: the disk is changed", what)
	}
}

// without is a disk of these bytes without power.
func without(t *testing.T, image []byte) *disk.Disk {
	t.Helper()
	d := disk.Load(image)
	d.Cut(0)
	if err := d.Write(0, make([]byte, 16)); err != api.ErrDead || !d.Dead() {
		t.Fatalf("a disk without power: %v", err)
	}
	return d
}

// some are numbers from the least to the greatest one.
func some() []int64 {
	return []int64{1, 2, 3, 127, 128, 255, 256, 257, 65535, 65536, 1<<24 + 7, 1<<31 - 1, 1 << 31, 1<<32 - 1, 1 << 32, 1<<32 + 1, 0x0123456789, api.MaxBoot - 1, api.MaxBoot}
}

// oddNumbers have no record.
func oddNumbers() []int64 {
	return []int64{math.MinInt64, math.MinInt64 + 1, -api.MaxBoot, -258, -1, 0, api.MaxBoot + 1, api.MaxBoot + 2, 1<<41 - 1, 1 << 41, 1<<48 + 1, 1<<62 + 1, math.MaxInt64 - 1, math.MaxInt64}
}

func TestExample1(t *testing.T) {
	d := disk.New(4)
	slotsAre(t, "a new disk", d, 0, 0)
	nextIs(t, "the first", d, 1, api.OK)
	slotsAre(t, "in the first slot", d, 1, 0)
	nextIs(t, "the second", d, 2, api.OK)
	slotsAre(t, "in the second slot", d, 1, 2)
	nextIs(t, "the third", d, 3, api.OK)
	slotsAre(t, "in the first slot again", d, 3, 2)
}

func TestExample2(t *testing.T) {
	d := disk.Load(slices.Concat(holding(3), holding(2)))
	d.Cut(1)
	nextIs(t, "cut off", d, 0, api.ErrDead)
	d.On()
	slotsAre(t, "behind it", d, 3, 0)
	nextIs(t, "once more", d, 4, api.OK)
	slotsAre(t, "in the second slot", d, 3, 4)

	d = disk.Load(slices.Concat(holding(3), holding(2)))
	d.Cut(2)
	nextIs(t, "two writes go through", d, 4, api.OK)
	if d.Dead() {
		t.Error("the power is gone")
	}
	slotsAre(t, "two writes go through", d, 3, 4)
}

func TestExample3(t *testing.T) {
	refusedAll(t, "three sectors", disk.New(3), api.ErrNumber)
	refusedAll(t, "nil", nil, api.ErrDead)
}

func TestSectors(t *testing.T) {
	if Sectors != 4 {
		t.Errorf("Sectors: %d", Sectors)
	}
}

func TestP8_4Record(t *testing.T) {
	for _, n := range some() {
		a, b := Record(n)
		if want := built(uint64(n)); !bytes.Equal(a, want[:16]) || !bytes.Equal(b, want[16:]) {
			t.Errorf("Record(%d): %x, %x, want %x, %x", n, a, b, want[:16], want[16:])
		}
	}
	for n := int64(1); n < 3000; n++ {
		a, b := Record(n)
		if !bytes.Equal(slices.Concat(a, b), built(uint64(n))) || len(a) != 16 {
			t.Fatalf("Record(%d): %x, %x", n, a, b)
		}
	}
	for _, n := range oddNumbers() {
		if a, b := Record(n); a != nil || b != nil {
			t.Errorf("Record(%d): %x, %x", n, a, b)
		}
	}
}

// The bytes themselves, written down, so that they hang on nothing that is reckoned here.
func TestP8_4RecordByItsBytes(t *testing.T) {
	for _, c := range []struct {
		n             int64
		first, second string
	}{
		{1, "\x01\x00\x00\x00\x00\x00\x00\x00EDDYBOOT", "\x8b\x3e\x1c\x63\x01\x00\x00\x00\x00\x00\x00\x00\x00\x00\x00\x00"},
		{258, "\x02\x01\x00\x00\x00\x00\x00\x00EDDYBOOT", "\x91\x51\x2f\xf3\x02\x01\x00\x00\x00\x00\x00\x00\x00\x00\x00\x00"},
		{1 << 40, "\x00\x00\x00\x00\x00\x01\x00\x00EDDYBOOT", "\xda\x70\xfa\x0c\x00\x00\x00\x00\x00\x01\x00\x00\x00\x00\x00\x00"},
	} {
		if a, b := Record(c.n); string(a) != c.first || string(b) != c.second {
			t.Errorf("Record(%d): %x, %x, want %x, %x", c.n, a, b, c.first, c.second)
		}
	}
}

func TestP8_4RecordIsNewMemory(t *testing.T) {
	want := built(258)
	a, b := Record(258)
	a = append(a, 1, 2, 3)
	b = append(b, 4, 5, 6)
	if !bytes.Equal(a[:16], want[:16]) || !bytes.Equal(b[:16], want[16:]) {
		t.Error("the two sectors share memory")
	}
	a, b = Record(258)
	clear(a)
	clear(b)
	if a, b := Record(258); !bytes.Equal(slices.Concat(a, b), want) {
		t.Error("two answers share memory")
	}
}

func TestP8_1NoPower(t *testing.T) {
	refusedAll(t, "nil", nil, api.ErrDead)
	refusedAll(t, "a plain one", &disk.Disk{}, api.ErrDead)
	refusedAll(t, "a new one", new(disk.Disk), api.ErrDead)
	refusedAll(t, "New(0)", disk.New(0), api.ErrDead)
	refusedAll(t, "Load of 15 bytes", disk.Load(make([]byte, 15)), api.ErrDead)
	plain := &disk.Disk{}
	plain.On()
	plain.Cut(5)
	refusedAll(t, "a plain one behind On", plain, api.ErrDead)
	for _, sectors := range []int{1, 2, 3, 4, 5, 64} {
		refusedAll(t, "without power", without(t, make([]byte, 16*sectors)), api.ErrDead)
	}
}

// Of several errors the first one is told: no power, too few sectors, the last number.
func TestP8_3TheFirstErrorIsTold(t *testing.T) {
	full := slices.Concat(holding(api.MaxBoot), holding(api.MaxBoot))
	for sectors := 1; sectors <= 4; sectors++ {
		refusedAll(t, "without power, the last number", without(t, full[:16*sectors]), api.ErrDead)
	}
	for sectors := 1; sectors <= 3; sectors++ {
		refusedAll(t, "too few sectors, the last number", disk.Load(full[:16*sectors]), api.ErrNumber)
		refusedAll(t, "too few sectors", disk.New(sectors), api.ErrNumber)
		d := disk.Load(full[:16*sectors])
		d.Cut(0)
		refusedAll(t, "too few sectors, a cut", d, api.ErrNumber)
	}
	d := disk.Load(full)
	d.Cut(0)
	nextIs(t, "the last number, a cut", d, 0, api.ErrLast)
	if d.Dead() || d.Writes() != 0 {
		t.Error("where there is no number left something is written")
	}
}

// The power that is back brings everything back.
func TestP8_1PowerComesBack(t *testing.T) {
	d := without(t, slices.Concat(holding(6), holding(5)))
	refusedAll(t, "without power", d, api.ErrDead)
	d.On()
	slotsAre(t, "behind On", d, 6, 5)
	nextIs(t, "behind On", d, 7, api.OK)
	short := without(t, make([]byte, 48))
	short.On()
	refusedAll(t, "behind On, too few sectors", short, api.ErrNumber)
}

func TestP8_1P8_2Slots(t *testing.T) {
	list := append(some(), 0)
	for _, sectors := range []int{4, 5, 6, 8, 64} {
		rest := bytes.Repeat([]byte{0x5a}, 16*(sectors-4))
		for _, a := range list {
			for _, b := range list {
				d := disk.Load(slices.Concat(holding(a), holding(b), rest))
				d.Cut(0)
				slotsAre(t, "two numbers", d, a, b)
				slotsAre(t, "asked again", d, a, b)
				imageIs(t, "asked", d, holding(a), holding(b), rest)
				if d.Writes() != 0 || d.Dead() {
					t.Fatal("to ask is to write")
				}
			}
		}
	}
}

// Records of which Record tells the sectors stand, wherever a slot is.
func TestP8_1WhatRecordTellsStands(t *testing.T) {
	for _, n := range some() {
		a, b := Record(n)
		slotsAre(t, "the first slot", disk.Load(slices.Concat(a, b, make([]byte, 32))), n, 0)
		slotsAre(t, "the second slot", disk.Load(slices.Concat(make([]byte, 32), a, b)), 0, n)
	}
}

// Sectors behind the fourth are none of the slots'.
func TestP8_1SectorsBehindTheFourth(t *testing.T) {
	d := disk.Load(slices.Concat(holding(3), holding(0), holding(9), holding(api.MaxBoot)))
	slotsAre(t, "records behind", d, 3, 0)
	nextIs(t, "records behind", d, 4, api.OK)
	nextIs(t, "records behind", d, 5, api.OK)
	imageIs(t, "records behind", d, holding(5), holding(4), holding(9), holding(api.MaxBoot))
}

// noRecord asks that sectors are taken as none, in either slot, and that Next writes over them.
func noRecord(t *testing.T, what string, b []byte) {
	t.Helper()
	first := disk.Load(slices.Concat(b, holding(77)))
	slotsAre(t, what+", first slot", first, 0, 77)
	nextIs(t, what+", first slot", first, 78, api.OK)
	imageIs(t, what+", first slot", first, holding(78), holding(77))
	second := disk.Load(slices.Concat(holding(77), b))
	slotsAre(t, what+", second slot", second, 77, 0)
	nextIs(t, what+", second slot", second, 78, api.OK)
	imageIs(t, what+", second slot", second, holding(77), holding(78))
	both := disk.Load(slices.Concat(b, b))
	slotsAre(t, what+", both slots", both, 0, 0)
	nextIs(t, what+", both slots", both, 1, api.OK)
	imageIs(t, what+", both slots", both, holding(1), b)
}

func TestP8_1OneBitTurned(t *testing.T) {
	for _, n := range []int64{1, 77, 78, 258, api.MaxBoot - 1, api.MaxBoot} {
		for bit := range 256 {
			b := holding(n)
			b[bit/8] ^= 1 << (bit % 8)
			noRecord(t, "one bit", b)
		}
	}
}

func TestP8_1HalvesOfUnlikeNumbers(t *testing.T) {
	for _, n := range some() {
		for _, m := range some() {
			if n != m {
				noRecord(t, "halves", slices.Concat(holding(n)[:16], holding(m)[16:]))
				odd := holding(n)
				copy(odd[20:28], holding(m)[20:28])
				noRecord(t, "the sum's number", odd)
				odd = holding(n)
				copy(odd[16:20], holding(m)[16:20])
				noRecord(t, "the other's sum", odd)
			}
		}
		noRecord(t, "the first half", slices.Concat(holding(n)[:16], make([]byte, 16)))
		noRecord(t, "the second half", slices.Concat(make([]byte, 16), holding(n)[16:]))
		noRecord(t, "turned round", slices.Concat(holding(n)[16:], holding(n)[:16]))
		noRecord(t, "the first half twice", slices.Concat(holding(n)[:16], holding(n)[:16]))
		noRecord(t, "the second half twice", slices.Concat(holding(n)[16:], holding(n)[16:]))
	}
}

func TestP8_1NoNumberWithARightSum(t *testing.T) {
	for _, n := range oddNumbers() {
		noRecord(t, "no number", built(uint64(n)))
	}
	for shift := 40; shift < 64; shift++ {
		for _, low := range []uint64{1, 77, 1<<40 - 1} {
			noRecord(t, "no number", built(1<<shift|low))
		}
	}
}

// summed is a record whose sum is made anew over other bytes.
func summed(first []byte, n int64) []byte {
	return slices.Concat(first, crc(first), holding(n)[20:])
}

func TestP8_1OtherBytes(t *testing.T) {
	for _, n := range []int64{1, 77, api.MaxBoot} {
		for at := 28; at < 32; at++ {
			for c := 1; c < 256; c++ {
				b := holding(n)
				b[at] = byte(c)
				noRecord(t, "where zeros belong", b)
			}
		}
		number := holding(n)[:8]
		for _, other := range []string{"EDDYBOOt", "eddyboot", "EDDYBOOS", "TOOBYDDE", "\x00\x00\x00\x00\x00\x00\x00\x00"} {
			noRecord(t, "another mark", summed(append(slices.Clone(number), other...), n))
		}
		noRecord(t, "the mark ahead", summed(append([]byte("EDDYBOOT"), number...), n))
	}
	noRecord(t, "zeros", make([]byte, 32))
	noRecord(t, "ones", bytes.Repeat([]byte{255}, 32))
	noRecord(t, "a text", []byte("EDDYBOOTEDDYBOOTEDDYBOOTEDDYBOOT"))
}

func TestP8_1OtherOrdersAndSums(t *testing.T) {
	for _, n := range []int64{1, 77, 258, api.MaxBoot - 1} {
		back := holding(n)[:8]
		slices.Reverse(back)
		high := summed(append(back, "EDDYBOOT"...), n)
		slices.Reverse(high[20:28])
		noRecord(t, "the highest first", high)
		turned := holding(n)
		slices.Reverse(turned[16:20])
		noRecord(t, "the sum's highest first", turned)
		narrow := holding(n)
		copy(narrow[16:20], crc(narrow[:8]))
		noRecord(t, "the sum of the number alone", narrow)
		again := holding(n)
		copy(again[16:], slices.Concat(again[20:28], again[16:20]))
		noRecord(t, "the sum behind the number", again)
	}
}

// A record that lies across the slots stands in none.
func TestP8_1AcrossTheSlots(t *testing.T) {
	zeros := make([]byte, 16)
	slotsAre(t, "one sector on", disk.Load(slices.Concat(zeros, holding(5), zeros)), 0, 0)
	slotsAre(t, "three sectors on", disk.Load(slices.Concat(zeros, zeros, zeros, holding(5), zeros)), 0, 0)
	slotsAre(t, "the slots' halves", disk.Load(slices.Concat(holding(5)[:16], zeros, holding(5)[16:], zeros)), 0, 0)
	slotsAre(t, "every other sector", disk.Load(slices.Concat(holding(5)[:16], holding(6)[:16], holding(5)[16:], holding(6)[16:])), 0, 0)
}

// Which slot is written, and that the bytes of the other one, and of what lies behind, stay.
func TestP8_3Next(t *testing.T) {
	list := append(some(), 0)
	for _, sectors := range []int{4, 5, 64} {
		rest := bytes.Repeat([]byte{0xc3, 7}, 8*(sectors-4))
		for _, a := range list {
			for _, b := range list {
				d := disk.Load(slices.Concat(holding(a), holding(b), rest))
				if a == api.MaxBoot || b == api.MaxBoot {
					nextIs(t, "no number is left", d, 0, api.ErrLast)
					imageIs(t, "no number is left", d, holding(a), holding(b), rest)
					continue
				}
				n := max(a, b) + 1
				nextIs(t, "a number", d, n, api.OK)
				if a <= b {
					imageIs(t, "the first slot", d, holding(n), holding(b), rest)
				} else {
					imageIs(t, "the second slot", d, holding(a), holding(n), rest)
				}
				if d.Writes() != 2 {
					t.Errorf("slots %d, %d: %d writes", a, b, d.Writes())
				}
			}
		}
	}
}

func TestP8_3TheLastNumber(t *testing.T) {
	for _, other := range []int64{0, 1, api.MaxBoot - 2, api.MaxBoot - 1} {
		for _, turned := range []bool{false, true} {
			a, b := api.MaxBoot-1, other
			if turned {
				a, b = b, a
			}
			d := disk.Load(slices.Concat(holding(a), holding(b)))
			nextIs(t, "the last one", d, api.MaxBoot, api.OK)
			for range 3 {
				nextIs(t, "none behind it", d, 0, api.ErrLast)
			}
			if n, err := Last(d); n != api.MaxBoot || err != api.OK || d.Writes() != 2 {
				t.Errorf("slots %d, %d: Last %d, %v, Writes %d", a, b, n, err, d.Writes())
			}
		}
	}
	d := disk.Load(slices.Concat(holding(api.MaxBoot-3), holding(0)))
	for n := api.MaxBoot - 2; n <= api.MaxBoot; n++ {
		nextIs(t, "the last ones", d, n, api.OK)
	}
	nextIs(t, "behind them", d, 0, api.ErrLast)
}

// A power cut behind 0, 1, 2 and 3 writes: which sectors were written till then.
func TestP8_3TheOrderOfWrites(t *testing.T) {
	for _, c := range []struct{ a, b int64 }{{0, 0}, {3, 2}, {2, 3}, {4, 4}, {0, 9}, {9, 0}, {255, 256}, {api.MaxBoot - 1, 0}} {
		n := max(c.a, c.b) + 1
		for writes := range 4 {
			d := disk.Load(slices.Concat(holding(c.a), holding(c.b), holding(50)))
			d.Cut(writes)
			want, asked := n, api.OK
			if writes < 2 {
				want, asked = 0, api.ErrDead
			}
			nextIs(t, "a cut", d, want, asked)
			if d.Dead() != (writes < 2) || d.Writes() != min(writes, 2) {
				t.Errorf("slots %d, %d, Cut(%d): Dead %t, Writes %d", c.a, c.b, writes, d.Dead(), d.Writes())
			}
			image := slices.Concat(holding(c.a), holding(c.b), holding(50))
			at := 0
			if c.b < c.a {
				at = 32
			}
			copy(image[at:], holding(n)[:16*min(writes, 2)])
			imageIs(t, "a cut", d, image)
		}
	}
}

// The third write of a cut is the next Next's first one.
func TestP8_3ACutReachesOverNexts(t *testing.T) {
	for writes := range 12 {
		d := disk.New(4)
		d.Cut(writes)
		for n := range int64(writes / 2) {
			nextIs(t, "ahead of the cut", d, n+1, api.OK)
		}
		nextIs(t, "cut off", d, 0, api.ErrDead)
		if d.Writes() != writes {
			t.Errorf("Cut(%d): Writes %d", writes, d.Writes())
		}
		refusedAll(t, "behind it", d, api.ErrDead)
		d.On()
		nextIs(t, "behind On", d, int64(writes/2)+1, api.OK)
	}
}

func TestP8_5ManyNexts(t *testing.T) {
	d := disk.New(5)
	for n := int64(1); n <= 2000; n++ {
		nextIs(t, "one by one", d, n, api.OK)
		a, b := n, n-1
		if n%2 == 0 {
			a, b = b, a
		}
		slotsAre(t, "one by one", d, a, b)
	}
	if d.Writes() != 4000 {
		t.Errorf("Writes: %d", d.Writes())
	}
	again := disk.Load(d.Image())
	nextIs(t, "of the image", again, 2001, api.OK)
}

// A cut that was set without power meets the Next behind On: the recovery is cut off as well.
func TestP8_5ARecoveryThatIsCutOff(t *testing.T) {
	for first := range 2 {
		for second := range 2 {
			d := disk.Load(slices.Concat(holding(3), holding(2)))
			d.Cut(first)
			nextIs(t, "cut off", d, 0, api.ErrDead)
			d.Cut(second)
			d.On()
			nextIs(t, "cut off again", d, 0, api.ErrDead)
			d.On()
			nextIs(t, "at last", d, 4, api.OK)
			slotsAre(t, "at last", d, 3, 4)
			nextIs(t, "and on", d, 5, api.OK)
			slotsAre(t, "and on", d, 5, 4)
		}
	}
}

func TestP8_6TheOtherSlotStands(t *testing.T) {
	for _, c := range []struct{ a, b int64 }{{3, 2}, {2, 3}, {6, 6}, {0, 5}, {5, 0}} {
		for writes := range 4 {
			d := disk.Load(slices.Concat(holding(c.a), holding(c.b)))
			d.Cut(writes)
			Next(d)
			seen := disk.Load(d.Image())
			x, y, err := Slots(seen)
			if err != api.OK || c.a <= c.b && y != c.b || c.a > c.b && x != c.a {
				t.Errorf("slots %d, %d, Cut(%d): %d, %d, %v", c.a, c.b, writes, x, y, err)
			}
		}
	}
}

func TestP8_7LastBehindACut(t *testing.T) {
	for _, c := range []struct{ a, b int64 }{{0, 0}, {3, 2}, {2, 3}, {6, 6}, {0, 5}, {5, 0}, {api.MaxBoot - 1, 1}} {
		for writes := range 2 {
			d := disk.Load(slices.Concat(holding(c.a), holding(c.b)))
			d.Cut(writes)
			nextIs(t, "cut off", d, 0, api.ErrDead)
			d.On()
			if n, err := Last(d); n != max(c.a, c.b) || err != api.OK {
				t.Errorf("slots %d, %d, Cut(%d): Last %d, %v", c.a, c.b, writes, n, err)
			}
		}
	}
}

// Where the second sector of the next record was there already, the first one alone makes it whole: nobody was told of it.
func TestP8_7OneMoreThatNobodyWasTold(t *testing.T) {
	junk := bytes.Repeat([]byte{9}, 16)
	d := disk.Load(slices.Concat(holding(4), junk, holding(5)[16:]))
	slotsAre(t, "ahead", d, 4, 0)
	d.Cut(0)
	nextIs(t, "cut off at once", d, 0, api.ErrDead)
	d.On()
	slotsAre(t, "cut off at once", d, 4, 0)
	d.Cut(1)
	nextIs(t, "cut off", d, 0, api.ErrDead)
	d.On()
	slotsAre(t, "one more", d, 4, 5)
	nextIs(t, "behind it", d, 6, api.OK)
	slotsAre(t, "behind it", d, 6, 5)

	full := disk.Load(slices.Concat(junk, holding(api.MaxBoot)[16:], holding(api.MaxBoot-1)))
	full.Cut(1)
	nextIs(t, "cut off", full, 0, api.ErrDead)
	full.On()
	slotsAre(t, "the last one, told to nobody", full, api.MaxBoot, api.MaxBoot-1)
	nextIs(t, "no number is left", full, 0, api.ErrLast)
}

// What one disk is asked is nothing to another one.
func TestDisksShareNothing(t *testing.T) {
	a, b := disk.New(4), disk.New(4)
	for n := int64(1); n < 9; n++ {
		nextIs(t, "one", a, n, api.OK)
	}
	nextIs(t, "the other", b, 1, api.OK)
	slotsAre(t, "one", a, 7, 8)
	slotsAre(t, "the other", b, 1, 0)
}

// An iterator stops where it is left.
func TestNumbersAreLeftEarly(t *testing.T) {
	s, err := load(disk.Load(slices.Concat(holding(3), holding(2))))
	if err != api.OK {
		t.Fatal(err)
	}
	for at, n := range s.numbers() {
		if at != 0 || n != 3 {
			t.Errorf("slot %d: %d", at, n)
		}
		break
	}
}
