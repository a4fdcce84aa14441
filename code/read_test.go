package code

import (
	"bytes"
	"math"
	"math/big"
	"math/rand"
	"slices"
	"strings"
	"testing"

	"eddy/api"
)

// nines is nine bytes of a number that goes on.
func nines(c byte) []byte { return slices.Repeat(hex(c), 9) }

// with is b and some bytes behind it.
func with(b []byte, more ...byte) []byte { return append(slices.Clone(b), more...) }

// unlaid reads a number by the document's words.
func unlaid(b []byte) (*big.Int, int, api.Errno) {
	last := slices.IndexFunc(b, func(c byte) bool { return c < 128 })
	switch {
	case len(b) >= 10 && (last < 0 || last >= 9) && b[9] > 1:
		return nil, 0, api.ErrForm
	case last < 0:
		return nil, 0, api.ErrShort
	case last > 0 && b[last] == 0:
		return nil, 0, api.ErrForm
	}
	x := new(big.Int)
	for i, c := range b[:last+1] {
		digit := big.NewInt(int64(c % 128))
		x.Add(x, digit.Lsh(digit, uint(7*i)))
	}
	return x, last + 1, api.OK
}

// unlaidSigned is the number that is written as x.
func unlaidSigned(x *big.Int) int64 {
	half := new(big.Int).Rsh(x, 1)
	if x.Bit(0) == 1 {
		half.Neg(half).Sub(half, big.NewInt(1))
	}
	return half.Int64()
}

// unlaidField reads a field by the document's words.
func unlaidField(b []byte, kind int) (api.Field, int, api.Errno) {
	if kind < api.FdNumber || kind > api.FdFlag {
		return api.Field{}, 0, api.ErrKind
	}
	if kind == api.FdFlag {
		switch {
		case len(b) == 0:
			return api.Field{}, 0, api.ErrShort
		case b[0] != 0 && b[0] != 1:
			return api.Field{}, 0, api.ErrForm
		}
		return flag(b[0] == 1), 1, api.OK
	}
	x, n, err := unlaid(b)
	switch {
	case err != api.OK:
		return api.Field{}, 0, err
	case kind == api.FdSigned:
		return sig(unlaidSigned(x)), n, api.OK
	case kind == api.FdNumber && !x.IsInt64():
		return api.Field{}, 0, api.ErrForm
	case kind == api.FdNumber:
		return num(x.Int64()), n, api.OK
	case x.Cmp(big.NewInt(int64(len(b)-n))) > 0:
		return api.Field{}, 0, api.ErrShort
	}
	end := n + int(x.Int64())
	return txt(string(b[n:end])), end, api.OK
}

// unlaidRow is Read by the document's words.
func unlaidRow(b []byte, kinds []int) (rows, int, api.Errno) {
	var l rows
	at := 0
	for _, kind := range kinds {
		f, n, err := unlaidField(b[at:], kind)
		if err != api.OK {
			return nil, 0, err
		}
		l, at = append(l, f), at+n
	}
	return l, at, api.OK
}

func checkRead(t *testing.T, b []byte, kinds []int, want rows, wantN int, wantErr api.Errno) {
	t.Helper()
	got, n, err := Read(b, kinds)
	if !slices.Equal(got, want) || n != wantN || err != wantErr {
		t.Errorf("Read(%x, %v): %#v %d %v, not %#v %d %v", b, kinds, got, n, err, want, wantN, wantErr)
	}
}

func TestP3_3Examples(t *testing.T) {
	checkRead(t, hex(0xac, 2, 7), []int{api.FdNumber}, row(num(300)), 2, api.OK)
	checkRead(t, hex(0x80, 0), []int{api.FdNumber}, nil, 0, api.ErrForm)
	checkRead(t, hex(0x80), []int{api.FdNumber}, nil, 0, api.ErrShort)
	checkRead(t, hex(2, 'a'), []int{api.FdText}, nil, 0, api.ErrShort)
	checkRead(t, hex(2), []int{api.FdFlag}, nil, 0, api.ErrForm)
	checkRead(t, hex(2), []int{9}, nil, 0, api.ErrKind)
	checkRead(t, nil, []int{9}, nil, 0, api.ErrKind)
	checkRead(t, hex(1, 5), []int{api.FdFlag, api.FdSigned}, row(flag(true), sig(-3)), 2, api.OK)
	checkRead(t, nil, nil, nil, 0, api.OK)
	checkRead(t, hex(), []int{}, nil, 0, api.OK)
	checkRead(t, hex(0x80, 0), nil, nil, 0, api.OK)
	checkRead(t, hex(0), []int{api.FdText}, row(txt("")), 1, api.OK)
	checkRead(t, hex(0, 0, 0, 0), []int{api.FdText, api.FdNumber, api.FdFlag, api.FdSigned}, row(txt(""), num(0), flag(false), sig(0)), 4, api.OK)
}

func TestP3_3Numbers(t *testing.T) {
	for _, x := range numbers() {
		b := laidNumber(x)
		if x <= math.MaxInt64 {
			checkRead(t, b, []int{api.FdNumber}, row(num(int64(x))), len(b), api.OK)
		} else {
			checkRead(t, b, []int{api.FdNumber}, nil, 0, api.ErrForm)
		}
	}
	for _, x := range signeds() {
		b := laidSigned(x)
		checkRead(t, b, []int{api.FdSigned}, row(sig(x)), len(b), api.OK)
	}
}

func TestP3_3Kinds(t *testing.T) {
	for _, kind := range wrongKinds() {
		for _, b := range [][]byte{nil, hex(0), hex(1, 1), hex(0x80), hex(0x80, 0), hex(2)} {
			checkRead(t, b, []int{kind}, nil, 0, api.ErrKind)
			checkRead(t, b, []int{kind, api.FdFlag}, nil, 0, api.ErrKind)
		}
	}
}

func TestP3_3FieldByField(t *testing.T) {
	for _, c := range []struct {
		b     []byte
		kinds []int
		err   api.Errno
	}{
		{nil, []int{api.FdFlag, 9}, api.ErrShort}, {hex(2), []int{api.FdFlag, 9}, api.ErrForm}, {hex(1), []int{api.FdFlag, 9}, api.ErrKind}, {hex(1), []int{api.FdFlag, api.FdFlag}, api.ErrShort}, {hex(2), []int{api.FdFlag, api.FdFlag}, api.ErrForm}, {hex(1, 2), []int{api.FdFlag, api.FdFlag}, api.ErrForm}, {hex(1, 2), []int{9, api.FdFlag}, api.ErrKind},
		{hex(2, 'a', 'b'), []int{api.FdText, api.FdNumber}, api.ErrShort}, {hex(2, 'a', 'b', 0x80), []int{api.FdText, api.FdNumber}, api.ErrShort}, {hex(2, 'a', 'b', 0x80, 0), []int{api.FdText, api.FdNumber}, api.ErrForm}, {hex(3, 'a', 'b'), []int{api.FdText, 0}, api.ErrShort}, {hex(0x80, 0), []int{api.FdSigned, 0}, api.ErrForm}, {hex(0xff, 1), []int{api.FdSigned, -1}, api.ErrKind},
	} {
		checkRead(t, c.b, c.kinds, nil, 0, c.err)
	}
}

func TestP3_3Short(t *testing.T) {
	for _, kind := range []int{api.FdNumber, api.FdSigned, api.FdText, api.FdFlag} {
		checkRead(t, nil, []int{kind}, nil, 0, api.ErrShort)
	}
	for n := 1; n <= 9; n++ {
		for _, c := range hex(0x80, 0x81, 0xff) {
			for _, kind := range []int{api.FdNumber, api.FdSigned, api.FdText} {
				checkRead(t, slices.Repeat(hex(c), n), []int{kind}, nil, 0, api.ErrShort)
			}
		}
	}
	for _, length := range []uint64{1, 127, 128, 1 << 20, math.MaxInt32, math.MaxUint32, 1 << 32, 1<<62 + 3, math.MaxInt64 - 1, math.MaxInt64, 1 << 63, 1<<63 + 1, math.MaxUint64 - 1, math.MaxUint64} {
		b := laidNumber(length)
		checkRead(t, b, []int{api.FdText}, nil, 0, api.ErrShort)
		if length > 3 {
			checkRead(t, with(b, 'a', 'b', 'c'), []int{api.FdText, api.FdNumber}, nil, 0, api.ErrShort)
		}
	}
}

func TestP3_3Form(t *testing.T) {
	for _, kind := range []int{api.FdNumber, api.FdSigned, api.FdText} {
		for n := 1; n <= 9; n++ { // a last byte 0 that need not be
			for _, c := range hex(0x80, 0x81, 0xff) {
				b := with(slices.Repeat(hex(c), n), 0)
				checkRead(t, b, []int{kind}, nil, 0, api.ErrForm)
				checkRead(t, with(b, slices.Repeat(hex('a'), 200)...), []int{kind}, nil, 0, api.ErrForm)
			}
		}
		for c := 2; c < 256; c++ { // a tenth byte above 1, whatever follows
			for _, first := range hex(0x80, 0xff) {
				b := with(nines(first), byte(c))
				for _, more := range [][]byte{nil, hex(0), hex(1), hex(0x80), hex(0x80, 0), hex(0xff, 0xff)} {
					checkRead(t, with(b, more...), []int{kind}, nil, 0, api.ErrForm)
				}
			}
		}
	}
	for c := 2; c < 256; c++ {
		checkRead(t, hex(byte(c)), []int{api.FdFlag}, nil, 0, api.ErrForm)
		checkRead(t, hex(byte(c), 1), []int{api.FdFlag}, nil, 0, api.ErrForm)
	}
	checkRead(t, with(nines(0x80), 1), []int{api.FdNumber}, nil, 0, api.ErrForm)
	checkRead(t, with(nines(0xff), 1), []int{api.FdNumber}, nil, 0, api.ErrForm)
	checkRead(t, with(nines(0x80), 1), []int{api.FdSigned}, row(sig(1<<62)), 10, api.OK)
	checkRead(t, with(nines(0xff), 1), []int{api.FdSigned}, row(sig(math.MinInt64)), 10, api.OK)
	checkRead(t, hex(0x81, 0), []int{api.FdText}, nil, 0, api.ErrForm) // a length that is none says nothing of what is to follow
}

// strungOf hands out all rows of bytes of a length, of those of an alphabet.
func strungOf(alphabet []byte, length int) func(yield func([]byte) bool) {
	return func(yield func([]byte) bool) {
		b := make([]byte, length)
		var from func(i int) bool
		from = func(i int) bool {
			if i == length {
				return yield(b)
			}
			for _, c := range alphabet {
				b[i] = c
				if !from(i + 1) {
					return false
				}
			}
			return true
		}
		from(0)
	}
}

// checkAll holds a reading against the document's words, and P3.6 of it.
func checkAll(t *testing.T, b []byte, kinds []int) {
	t.Helper()
	want, wantN, wantErr := unlaidRow(b, kinds)
	checkRead(t, b, kinds, want, wantN, wantErr)
	l, n, err := Read(b, kinds)
	if err == api.OK && !bytes.Equal(Fields(l), b[:n]) {
		t.Errorf("Fields of Read(%x, %v): %x, and %d bytes were taken", b, kinds, Fields(l), n)
	}
}

func TestP3_3AndP3_6OfAllShortBytes(t *testing.T) {
	every := make([]byte, 256)
	for i := range every {
		every[i] = byte(i)
	}
	for length := range 3 {
		for b := range strungOf(every, length) {
			for kind := range api.NumFds + 1 {
				checkAll(t, b, []int{kind})
			}
		}
	}
	some := hex(0, 1, 2, 3, 0x7f, 0x80, 0x81, 0xff)
	for length := range 5 {
		for b := range strungOf(some, length) {
			for first := api.FdNumber; first < api.NumFds; first++ {
				checkAll(t, b, []int{first})
				for second := api.FdNumber; second <= api.NumFds; second++ {
					checkAll(t, b, []int{first, second})
				}
			}
		}
	}
}

func TestP3_3AndP3_6OfLongNumbers(t *testing.T) {
	for length := 8; length <= 12; length++ {
		for i := range length {
			for _, first := range hex(0x80, 0x81, 0xff) {
				for c := range 256 {
					b := slices.Repeat(hex(first), length)
					b[i] = byte(c)
					for kind := api.FdNumber; kind < api.NumFds; kind++ {
						checkAll(t, b, []int{kind})
					}
				}
			}
		}
	}
}

func TestP3_3AndP3_6OfRowsThatAreTurned(t *testing.T) {
	r := rand.New(rand.NewSource(3))
	seen := map[api.Errno]int{}
	for range 20000 {
		l := drawn(r, r.Intn(7))
		b, kinds := laidRow(l), kindsOf(l)
		for range r.Intn(3) {
			if len(b) > 0 {
				b[r.Intn(len(b))] = byte(r.Uint32())
			}
			if len(kinds) > 0 && r.Intn(4) == 0 {
				kinds[r.Intn(len(kinds))] = r.Intn(api.NumFds + 1)
			}
		}
		if r.Intn(3) == 0 {
			b = b[:r.Intn(len(b)+1)]
		}
		checkAll(t, b, kinds)
		_, _, err := Read(b, kinds)
		seen[err]++
	}
	for _, err := range []api.Errno{api.OK, api.ErrKind, api.ErrShort, api.ErrForm} {
		if seen[err] < 100 {
			t.Errorf("%v came about %d times alone", err, seen[err])
		}
	}
}

func TestP3_3WhatStandsBehindPlaysNoPart(t *testing.T) {
	for _, l := range fitRows() {
		b := laidRow(l)
		for _, behind := range [][]byte{hex(0), hex(0x80), hex(0x80, 0), hex(2), nines(0xff)} {
			checkRead(t, with(b, behind...), kindsOf(l), l, len(b), api.OK)
		}
	}
}

func TestP3_3SpareRoomPlaysNoPart(t *testing.T) {
	for _, kind := range []int{api.FdNumber, api.FdSigned, api.FdText} {
		whole := hex(0x82, 1, 'a', 'b')
		checkRead(t, whole[:1], []int{kind}, nil, 0, api.ErrShort)
	}
	checkRead(t, hex(2, 'a', 'b')[:2], []int{api.FdText}, nil, 0, api.ErrShort)
	checkRead(t, hex(1)[:0], []int{api.FdFlag}, nil, 0, api.ErrShort)
	checkRead(t, hex(1), []int{api.FdFlag, 9}[:1], row(flag(true)), 1, api.OK)
}

func TestP3_3LeavesWhatIsHandedIn(t *testing.T) {
	b, kinds := hex(2, 'a', 'b', 1, 7), []int{api.FdText, api.FdFlag}
	l, _, _ := Read(b, kinds)
	again, _, _ := Read(b, kinds)
	if !bytes.Equal(b, hex(2, 'a', 'b', 1, 7)) || !slices.Equal(kinds, []int{api.FdText, api.FdFlag}) {
		t.Error("Read has changed what was handed in")
	}
	l[1] = flag(false)
	for i := range b {
		b[i] = 'x'
	}
	kinds[0], kinds[1] = 9, 9
	if l[0] != txt("ab") || !slices.Equal(again, row(txt("ab"), flag(true))) {
		t.Errorf("answers hang on what was handed in, or on each other: %v %v", l, again)
	}
}

func TestP3_5ThereAndBack(t *testing.T) {
	for _, l := range fitRows() {
		b := Fields(l)
		checkRead(t, b, kindsOf(l), l, len(b), api.OK)
	}
	r := rand.New(rand.NewSource(4))
	for _, n := range []int{10, 1000, 100000} {
		l := drawn(r, n)
		b := Fields(l)
		got, taken, err := Read(b, kindsOf(l))
		if !slices.Equal(got, l) || taken != len(b) || err != api.OK {
			t.Errorf("%d fields: %d came back of %d bytes of %d, %v", n, len(got), taken, len(b), err)
		}
	}
	long := row(txt(strings.Repeat("ab", 1<<20)), num(5))
	b := Fields(long)
	if got, n, err := Read(b, kindsOf(long)); !slices.Equal(got, long) || n != 1<<21+5 || n != len(b) || err != api.OK {
		t.Errorf("a long text: %d bytes of %d, %v", n, len(b), err)
	}
}

func TestP3_7BeginningsAreShort(t *testing.T) {
	for _, l := range fitRows() {
		b, kinds := Fields(l), kindsOf(l)
		for n := range len(b) {
			if len(b) > 2000 && n > 300 && n < len(b)-300 {
				continue
			}
			if got, taken, err := Read(b[:n], kinds); len(got) != 0 || taken != 0 || err != api.ErrShort {
				t.Fatalf("the first %d bytes of %d of %v: %#v %d %v", n, len(b), kinds, got, taken, err)
			}
		}
	}
}

// valuesOf are fields of a kind, among them such as are close to each other.
func valuesOf(kind int) rows {
	var l rows
	switch kind {
	case api.FdNumber:
		for _, x := range []int64{0, 1, 127, 128, 129, 255, 256, 16383, 16384, 16512, math.MaxInt64 - 1, math.MaxInt64} {
			l = append(l, num(x))
		}
	case api.FdSigned:
		for _, x := range []int64{0, 1, -1, 2, -2, 63, -64, 64, -65, 128, math.MaxInt64, math.MinInt64, math.MinInt64 + 1, -math.MaxInt64 + 1} {
			l = append(l, sig(x))
		}
	case api.FdText:
		for _, s := range []string{"", "a", "b", "ab", "aa", "\x00", "\x01", "\x00\x00", "\x01a", "\x02a", "\x80\x01"} {
			l = append(l, txt(s))
		}
	case api.FdFlag:
		l = row(flag(true), flag(false))
	}
	return l
}

func TestP3_7NoneIsABeginningOfAnother(t *testing.T) {
	for first := api.FdNumber; first < api.NumFds; first++ {
		for second := api.FdNumber; second < api.NumFds; second++ {
			var written [][]byte
			for _, f := range valuesOf(first) {
				for _, g := range valuesOf(second) {
					written = append(written, Fields(row(f, g)))
				}
			}
			for i, a := range written {
				for j, b := range written {
					if i != j && bytes.HasPrefix(b, a) {
						t.Errorf("kinds %d and %d: %x is a beginning of %x", first, second, a, b)
					}
				}
			}
		}
	}
}

func TestCaughtHidesNoOtherFault(t *testing.T) {
	defer func() {
		if recover() == nil {
			t.Error("a fault of the program is hidden")
		}
	}()
	caught("no error")
}

func FuzzRead(f *testing.F) {
	f.Add([]byte{0xac, 2, 7}, []byte{api.FdNumber})
	f.Add([]byte{2, 'a', 'b', 1, 5}, []byte{api.FdText, api.FdFlag, api.FdSigned})
	f.Fuzz(func(t *testing.T, b, k []byte) {
		kinds := make([]int, len(k))
		for i, c := range k {
			kinds[i] = int(c)
		}
		checkAll(t, b, kinds)
	})
}
