package code

import (
	"bytes"
	"math"
	"math/big"
	"math/rand"
	"slices"
	"strings"
	"testing"

	"eddy/api"
)

func num(x int64) api.Field   { return api.Field{Kind: api.FdNumber, Num: x} }
func sig(x int64) api.Field   { return api.Field{Kind: api.FdSigned, Num: x} }
func txt(s string) api.Field  { return api.Field{Kind: api.FdText, Text: s} }
func flag(is bool) api.Field  { return api.Field{Kind: api.FdFlag, Is: is} }
func hex(b ...byte) []byte    { return b }
func row(l ...api.Field) rows { return l }

type rows = []api.Field

// numbers are those at the ends of one to ten bytes, and around them, and some between.
func numbers() []uint64 {
	l := []uint64{0, 1, 2, 3, 63, 64, 65, 300, math.MaxInt64 - 1, math.MaxInt64, 1 << 63, 1<<63 + 1, math.MaxUint64 - 1, math.MaxUint64}
	for n := 1; n < 10; n++ {
		end := uint64(1) << (7 * n)
		l = append(l, end-2, end-1, end, end+1)
	}
	r := rand.New(rand.NewSource(1))
	for range 500 {
		l = append(l, r.Uint64()>>r.Intn(64))
	}
	return l
}

// signeds are numbers of both signs, the least and the greatest among them.
func signeds() []int64 {
	l := []int64{math.MinInt64, math.MinInt64 + 1, math.MaxInt64 - 1, math.MaxInt64, -1 << 62, -1<<62 - 1, -1<<62 + 1, 1 << 62, 1<<62 - 1, -300, -65, -64, -63, -2, -1, 0}
	for _, x := range numbers() {
		l = append(l, int64(x), -int64(x))
	}
	return l
}

// texts are of no bytes, of such as have a length of one, two and three bytes, and of bytes that are no runes.
func texts() []string {
	return []string{"", "a", "ab", "\x00", "\x80", "\xff\xfe", "naïve", strings.Repeat("x", 126), strings.Repeat("x", 127), strings.Repeat("x", 128), strings.Repeat("y", 129), strings.Repeat("\x00", 16383), strings.Repeat("z", 16384), strings.Repeat("\x80", 16385)}
}

// laid is a number as bytes by the document's words: its digits to the base 128, the lowest first.
func laid(x *big.Int) []byte {
	var b []byte
	rest, digit, base := new(big.Int).Set(x), new(big.Int), big.NewInt(128)
	for {
		rest.DivMod(rest, base, digit)
		d := byte(digit.Int64())
		if rest.Sign() == 0 {
			return append(b, d)
		}
		b = append(b, d+128)
	}
}

func laidNumber(x uint64) []byte { return laid(new(big.Int).SetUint64(x)) }

func laidSigned(x int64) []byte {
	twice := new(big.Int).Mul(big.NewInt(x), big.NewInt(2))
	if x < 0 {
		twice.Neg(twice).Sub(twice, big.NewInt(1))
	}
	return laid(twice)
}

func laidText(s string) []byte { return append(laidNumber(uint64(len(s))), s...) }

func laidFlag(is bool) []byte {
	if is {
		return hex(1)
	}
	return hex(0)
}

// laidRow is a row of fit fields as bytes by the document's words.
func laidRow(l rows) []byte {
	var b []byte
	for _, f := range l {
		switch f.Kind {
		case api.FdNumber:
			b = append(b, laidNumber(uint64(f.Num))...)
		case api.FdSigned:
			b = append(b, laidSigned(f.Num)...)
		case api.FdText:
			b = append(b, laidText(f.Text)...)
		case api.FdFlag:
			b = append(b, laidFlag(f.Is)...)
		}
	}
	return b
}

// drawn is a fit row by a fixed seed.
func drawn(r *rand.Rand, n int) rows {
	l := make(rows, n)
	for i := range l {
		switch r.Intn(4) {
		case 0:
			l[i] = num(r.Int63() >> r.Intn(63))
		case 1:
			l[i] = sig(int64(r.Uint64()) >> r.Intn(64))
		case 2:
			b := make([]byte, r.Intn(6)+r.Intn(2)*r.Intn(300))
			r.Read(b)
			l[i] = txt(string(b))
		default:
			l[i] = flag(r.Intn(2) == 1)
		}
	}
	return l
}

// fitRows are rows of the edges, and others.
func fitRows() []rows {
	l := []rows{nil, row(flag(true), sig(-3)), row(num(300), num(0), txt(""), flag(false), sig(0)), row(num(math.MaxInt64), sig(math.MinInt64), txt("ab"), sig(math.MaxInt64), flag(true))}
	for _, x := range numbers() {
		if x <= math.MaxInt64 {
			l = append(l, row(num(int64(x))))
		}
	}
	for _, x := range signeds() {
		l = append(l, row(sig(x)))
	}
	for _, s := range texts() {
		l = append(l, row(txt(s)))
	}
	l = append(l, row(flag(true)), row(flag(false)))
	r := rand.New(rand.NewSource(2))
	for range 500 {
		l = append(l, drawn(r, r.Intn(9)))
	}
	return l
}

func kindsOf(l rows) []int {
	var kinds []int
	for _, f := range l {
		kinds = append(kinds, f.Kind)
	}
	return kinds
}

func TestP3_1Examples(t *testing.T) {
	for _, c := range []struct {
		name      string
		got, want []byte
	}{
		{"Number 300", Number(nil, 300), hex(0xac, 2)}, {"Number 0", Number(nil, 0), hex(0)}, {"Number 127", Number(nil, 127), hex(0x7f)}, {"Number 128", Number(nil, 128), hex(0x80, 1)},
		{"Number 2^63 - 1", Number(nil, math.MaxInt64), hex(0xff, 0xff, 0xff, 0xff, 0xff, 0xff, 0xff, 0xff, 0x7f)},
		{"Number 2^63", Number(nil, 1<<63), hex(0x80, 0x80, 0x80, 0x80, 0x80, 0x80, 0x80, 0x80, 0x80, 1)},
		{"Number 2^64 - 1", Number(nil, math.MaxUint64), hex(0xff, 0xff, 0xff, 0xff, 0xff, 0xff, 0xff, 0xff, 0xff, 1)},
		{"Signed 0", Signed(nil, 0), hex(0)}, {"Signed -1", Signed(nil, -1), hex(1)}, {"Signed 1", Signed(nil, 1), hex(2)}, {"Signed -64", Signed(nil, -64), hex(0x7f)}, {"Signed 64", Signed(nil, 64), hex(0x80, 1)},
		{"Signed, the least", Signed(nil, math.MinInt64), hex(0xff, 0xff, 0xff, 0xff, 0xff, 0xff, 0xff, 0xff, 0xff, 1)},
		{"Signed, the greatest", Signed(nil, math.MaxInt64), hex(0xfe, 0xff, 0xff, 0xff, 0xff, 0xff, 0xff, 0xff, 0xff, 1)},
		{"Text ab", Text(nil, "ab"), hex(2, 'a', 'b')}, {"Text, empty", Text(nil, ""), hex(0)}, {"Text, not of runes", Text(nil, "\xff\x00"), hex(2, 0xff, 0)},
		{"Flag, so", Flag(nil, true), hex(1)}, {"Flag, not so", Flag(nil, false), hex(0)},
		{"Number behind bytes", Number(hex(9, 0x80), 300), hex(9, 0x80, 0xac, 2)}, {"Signed behind bytes", Signed(hex(9), -3), hex(9, 5)}, {"Text behind bytes", Text(hex(9), "ab"), hex(9, 2, 'a', 'b')}, {"Flag behind bytes", Flag(hex(9), false), hex(9, 0)}, {"Flag behind none", Flag(hex(), true), hex(1)},
	} {
		if !bytes.Equal(c.got, c.want) {
			t.Errorf("%s: %x, not %x", c.name, c.got, c.want)
		}
	}
}

func TestP3_1WhatIsWritten(t *testing.T) {
	ahead := hex(7, 0xff)
	check := func(what any, got, want []byte) {
		if !bytes.Equal(got, append(slices.Clone(ahead), want...)) {
			t.Errorf("%v: %x, not %x behind %x", what, got, want, ahead)
		}
	}
	for _, x := range numbers() {
		check(x, Number(ahead, x), laidNumber(x))
	}
	for _, x := range signeds() {
		check(x, Signed(ahead, x), laidSigned(x))
	}
	for _, s := range texts() {
		check(len(s), Text(ahead, s), laidText(s))
	}
	check(true, Flag(ahead, true), laidFlag(true))
	check(false, Flag(ahead, false), laidFlag(false))
}

// writers write something of one byte, of some, and of many.
func writers() map[string]func(b []byte) []byte {
	return map[string]func(b []byte) []byte{
		"Number, short": func(b []byte) []byte { return Number(b, 1) }, "Number, long": func(b []byte) []byte { return Number(b, math.MaxUint64) },
		"Signed, short": func(b []byte) []byte { return Signed(b, -1) }, "Signed, long": func(b []byte) []byte { return Signed(b, math.MinInt64) },
		"Text, empty": func(b []byte) []byte { return Text(b, "") }, "Text, short": func(b []byte) []byte { return Text(b, "abc") }, "Text, long": func(b []byte) []byte { return Text(b, strings.Repeat("x", 200)) },
		"Flag": func(b []byte) []byte { return Flag(b, true) },
	}
}

func TestP3_1LeavesWhatIsHandedIn(t *testing.T) {
	for name, write := range writers() {
		for _, room := range []int{0, 1, 4, 1000} {
			whole := slices.Repeat(hex(0xee), 3+room)
			b := whole[:3]
			first, again := write(b), write(b)
			if !bytes.Equal(whole, slices.Repeat(hex(0xee), 3+room)) {
				t.Errorf("%s has written into b, with room for %d", name, room)
			}
			kept := slices.Clone(again)
			all := first[:cap(first)]
			for i := range all {
				all[i] = 0x55
			}
			if !bytes.Equal(whole, slices.Repeat(hex(0xee), 3+room)) {
				t.Errorf("%s: its answer lies in b's memory, with room for %d", name, room)
			}
			if !bytes.Equal(again, kept) {
				t.Errorf("%s: two answers share memory, with room for %d", name, room)
			}
		}
	}
}

func TestP3_2Examples(t *testing.T) {
	for _, c := range []struct {
		l    rows
		want []byte
	}{
		{row(flag(true), sig(-3)), hex(1, 5)}, {row(num(-1)), nil}, {nil, nil}, {rows{}, nil}, {row(num(0)), hex(0)}, {row(num(300), txt("ab"), flag(false)), hex(0xac, 2, 2, 'a', 'b', 0)}, {row(txt("")), hex(0)}, {row(sig(-64), sig(64)), hex(0x7f, 0x80, 1)},
	} {
		if got := Fields(c.l); !bytes.Equal(got, c.want) {
			t.Errorf("Fields(%#v): %x, not %x", c.l, got, c.want)
		}
	}
}

func TestP3_2OneBehindTheOther(t *testing.T) {
	for _, l := range fitRows() {
		kept := slices.Clone(l)
		if got, want := Fields(l), laidRow(l); !bytes.Equal(got, want) {
			t.Errorf("Fields(%#v): %x, not %x", l, got, want)
		}
		if !slices.Equal(l, kept) {
			t.Errorf("Fields has changed %#v to %#v", kept, l)
		}
	}
}

// wrongFields are fields that are not as the document says.
func wrongFields() rows {
	l := rows{
		num(-1), num(math.MinInt64), num(-1 << 40),
		{Kind: api.FdNumber, Text: "a"}, {Kind: api.FdNumber, Is: true}, {Kind: api.FdNumber, Num: 5, Text: "\x00"}, {Kind: api.FdNumber, Num: 5, Is: true},
		{Kind: api.FdSigned, Text: "a"}, {Kind: api.FdSigned, Is: true}, {Kind: api.FdSigned, Num: -5, Text: "a"}, {Kind: api.FdSigned, Num: -5, Is: true},
		{Kind: api.FdText, Num: 1}, {Kind: api.FdText, Num: -1, Text: "a"}, {Kind: api.FdText, Is: true}, {Kind: api.FdText, Text: "a", Is: true},
		{Kind: api.FdFlag, Num: 1}, {Kind: api.FdFlag, Num: -1, Is: true}, {Kind: api.FdFlag, Text: "a"}, {Kind: api.FdFlag, Text: "a", Is: true},
	}
	for _, kind := range wrongKinds() {
		l = append(l, api.Field{Kind: kind}, api.Field{Kind: kind, Num: 1}, api.Field{Kind: kind, Text: "a"}, api.Field{Kind: kind, Is: true})
	}
	return l
}

func wrongKinds() []int {
	return []int{0, api.NumFds, api.NumFds + 1, 9, -1, -2, 256 + api.FdNumber, 1<<32 + api.FdText, math.MinInt, math.MaxInt}
}

func TestP3_2NoneIfOneIsWrong(t *testing.T) {
	for _, f := range wrongFields() {
		for _, l := range []rows{row(f), row(f, num(1)), row(num(1), f), row(txt("ab"), flag(true), f, sig(-1), num(7))} {
			if got := Fields(l); len(got) != 0 {
				t.Errorf("Fields(%#v): %x", l, got)
			}
		}
	}
}

func TestP3_2MemoryOfItsOwn(t *testing.T) {
	l := row(num(300), txt("ab"))
	first := Fields(l)
	for i := range first {
		first[i] = 0
	}
	if again := Fields(l); !bytes.Equal(again, hex(0xac, 2, 2, 'a', 'b')) {
		t.Errorf("Fields hands out what it keeps: %x", again)
	}
}

func TestP3_4Size(t *testing.T) {
	for _, c := range []struct {
		x    uint64
		want int
	}{{0, 1}, {1, 1}, {127, 1}, {128, 2}, {1<<14 - 1, 2}, {1 << 14, 3}, {1<<21 - 1, 3}, {1 << 21, 4}, {1<<56 - 1, 8}, {1 << 56, 9}, {math.MaxInt64, 9}, {1 << 63, 10}, {math.MaxUint64, 10}} {
		if got := Size(c.x); got != c.want {
			t.Errorf("Size(%d): %d", c.x, got)
		}
	}
	sizes := map[int]int{}
	for _, x := range numbers() {
		sizes[Size(x)]++
		if got, want := Size(x), len(laidNumber(x)); got != want || got != len(Number(nil, x)) {
			t.Errorf("Size(%d): %d, not %d", x, got, want)
		}
	}
	for n := 1; n <= 10; n++ {
		if sizes[n] == 0 {
			t.Errorf("no number of %d bytes is among those that are tried", n)
		}
	}
}
