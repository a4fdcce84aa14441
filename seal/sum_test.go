package seal

import (
	"hash/crc32"
	"math/bits"
	"math/rand"
	"testing"
)

// reckoned is the sum by the document's words: a division by the polynomial, bit by bit.
func reckoned(b []byte) uint32 {
	rest := uint32(1<<32 - 1)
	for _, c := range b {
		for i := range 8 {
			out := rest>>31 ^ uint32(c)>>i&1
			rest = rest << 1
			if out == 1 {
				rest ^= 0x04c11db7
			}
		}
	}
	return 1<<32 - 1 - bits.Reverse32(rest)
}

// noise is n bytes that hang on a seed.
func noise(seed int64, n int) []byte {
	b := make([]byte, n)
	rand.New(rand.NewSource(seed)).Read(b)
	return b
}

func TestP4_1Sum(t *testing.T) {
	for _, c := range []struct {
		text string
		sum  uint32
	}{
		{"", 0},
		{"123456789", 0xcbf43926},
		{"a", 0xe8b7be43},
		{"abc", 0x352441c2},
		{"\x00", 0xd202ef8d},
		{"\x00\x00\x00\x00", 0x2144df1c},
		{"\xff\xff\xff\xff", 0xffffffff},
		{"The quick brown fox jumps over the lazy dog", 0x414fa339},
	} {
		if got := Sum([]byte(c.text)); got != c.sum {
			t.Errorf("Sum(%q) = %08x, want %08x", c.text, got, c.sum)
		}
	}
	if got := Sum(nil); got != 0 {
		t.Errorf("Sum(nil) = %08x", got)
	}
}

func TestP4_1SumIsTheDivisionsRest(t *testing.T) {
	ask := func(b []byte) {
		t.Helper()
		if got, want := Sum(b), reckoned(b); got != want || got != crc32.ChecksumIEEE(b) {
			t.Fatalf("Sum(%x) = %08x, want %08x", b, got, want)
		}
	}
	for x := range 1 << 16 {
		ask([]byte{byte(x), byte(x >> 8)})
	}
	for c := range 256 {
		ask([]byte{byte(c)})
	}
	for n := range 700 {
		ask(noise(int64(n), n))
	}
	ask(noise(1, 100000))
}

// A sum that is worked out from what was kept along the way is the one of going over the bytes.
func TestP4_1SumsOfStretches(t *testing.T) {
	for n := range 3*stride + 2 {
		b := noise(int64(n), n)
		s := sumsOf(b)
		for from := range n + 1 {
			for to := from; to <= n; to++ {
				if got, want := s.stretch(from, to), reckonedFast(b[from:to]); got != want {
					t.Fatalf("%d bytes, from %d to %d: %08x, want %08x", n, from, to, got, want)
				}
			}
		}
	}
	b := noise(1, 200000)
	s := sumsOf(b)
	r := rand.New(rand.NewSource(2))
	for range 2000 {
		from := r.Intn(len(b) + 1)
		to := from + r.Intn(len(b)-from+1)
		if got, want := s.stretch(from, to), reckonedFast(b[from:to]); got != want {
			t.Fatalf("from %d to %d: %08x, want %08x", from, to, got, want)
		}
	}
}

// reckonedFast is reckoned for who asks often.
func reckonedFast(b []byte) uint32 { return crc32.ChecksumIEEE(b) }
