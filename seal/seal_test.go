package seal

import (
	"bytes"
	"math/rand"
	"slices"
	"testing"

	"eddy/api"
)

// laid is a frame by the document's words.
func laid(body []byte) []byte {
	length := []byte{byte(len(body) % 256), byte(len(body) / 256)}
	summed := slices.Concat(length, body)
	sum := reckoned(summed)
	return slices.Concat([]byte{237, 91}, summed, []byte{byte(sum), byte(sum >> 8), byte(sum >> 16), byte(sum >> 24)})
}

// opened is Open by the document's words.
func opened(b []byte) ([]byte, int, api.Errno) {
	theMark := []byte{237, 91}
	if !bytes.HasPrefix(b, theMark) && !bytes.HasPrefix(theMark, b) {
		return nil, 0, api.ErrForm
	}
	if len(b) < 4 || len(b) < 4+int(b[2])+256*int(b[3])+4 {
		return nil, 0, api.ErrShort
	}
	body := b[4 : 4+int(b[2])+256*int(b[3])]
	frame := laid(body)
	if !bytes.HasPrefix(b, frame) {
		return nil, 0, api.ErrSum
	}
	return body, len(frame), api.OK
}

// openedAll is All by the document's words.
func openedAll(b []byte) ([][]byte, int, api.Errno) {
	var l [][]byte
	at := 0
	for len(b[at:]) > 0 {
		body, n, err := opened(b[at:])
		if err != api.OK {
			return l, at, err
		}
		l = append(l, body)
		at += n
	}
	return l, at, api.OK
}

// salvaged is Salvage by the document's words.
func salvaged(b []byte) ([][]byte, []int) {
	var l [][]byte
	var places []int
	for at := 0; at < len(b); {
		body, n, err := opened(b[at:])
		if err != api.OK {
			at++
			continue
		}
		l = append(l, body)
		places = append(places, at)
		at += n
	}
	return l, places
}

// sealed is the frame of a body that has room in one.
func sealed(t *testing.T, body []byte) []byte {
	t.Helper()
	f, err := Seal(body)
	if err != api.OK {
		t.Fatalf("Seal of %d bytes: %v", len(body), err)
	}
	return f
}

// bodies are of no bytes and of more, of marks, of whole frames, and of the most bytes.
func bodies() [][]byte {
	l := [][]byte{nil, {}, {0}, {0, 0, 0, 0}, {255}, {237}, {237, 91}, {237, 91, 237, 91}, []byte("a"), []byte("123456789"), laid(nil), laid([]byte("a")), laid(laid([]byte("a")))}
	for n := range 40 {
		l = append(l, noise(int64(n), n))
	}
	for _, n := range []int{254, 255, 256, 257, 511, 512, 513, 4095, 32768, 65279, 65280, api.MaxSealed - 1, api.MaxSealed} {
		l = append(l, noise(int64(n), n))
	}
	return append(l, make([]byte, api.MaxSealed), bytes.Repeat([]byte{237, 91}, 300))
}

// small are the bodies of few bytes.
func small() [][]byte {
	return slices.DeleteFunc(bodies(), func(b []byte) bool { return len(b) > 64 })
}

func sameBodies(a, b [][]byte) bool { return slices.EqualFunc(a, b, bytes.Equal) }

// heldToModel holds Open, All and Salvage of b to the document's words.
func heldToModel(t *testing.T, b []byte) {
	t.Helper()
	was := slices.Clone(b)
	shown := b[:min(len(b), 200)]
	body, n, err := Open(b)
	wantBody, wantN, wantErr := opened(b)
	if !bytes.Equal(body, wantBody) || n != wantN || err != wantErr || err != api.OK && body != nil {
		t.Fatalf("Open(%x) = %x, %d, %v, want %x, %d, %v", shown, body, n, err, wantBody, wantN, wantErr)
	}
	l, n, err := All(b)
	wantL, wantN, wantErr := openedAll(b)
	if !sameBodies(l, wantL) || n != wantN || err != wantErr {
		t.Fatalf("All(%x) = %x, %d, %v, want %x, %d, %v", shown, l, n, err, wantL, wantN, wantErr)
	}
	l, places := Salvage(b)
	wantL, wantPlaces := salvaged(b)
	if !sameBodies(l, wantL) || !slices.Equal(places, wantPlaces) {
		t.Fatalf("Salvage(%x) = %x at %v, want %x at %v", shown, l, places, wantL, wantPlaces)
	}
	if !bytes.Equal(b, was) {
		t.Fatalf("%x was changed to %x", was, b)
	}
}

func TestP4_2Seal(t *testing.T) {
	for _, body := range bodies() {
		if f, err := Seal(body); err != api.OK || !bytes.Equal(f, laid(body)) {
			t.Errorf("Seal(%.40x) = %.60x, %v", body, f, err)
		}
	}
	if f := sealed(t, []byte("a")); !bytes.Equal(f, []byte{0xed, 0x5b, 1, 0, 'a', 0xeb, 0xe2, 0x36, 0xc4}) {
		t.Errorf("Seal of a = %x", f)
	}
	if f := sealed(t, nil); !bytes.Equal(f, []byte{0xed, 0x5b, 0, 0, 0xff, 0x12, 0xd9, 0x41}) {
		t.Errorf("Seal of nothing = %x", f)
	}
}

func TestP4_2SealTooLong(t *testing.T) {
	for _, n := range []int{api.MaxSealed + 1, api.MaxSealed + 2, 2 * api.MaxSealed, 1 << 20} {
		if f, err := Seal(make([]byte, n)); f != nil || err != api.ErrLong {
			t.Errorf("Seal of %d bytes: %d bytes, %v", n, len(f), err)
		}
	}
	if f, err := Seal(make([]byte, api.MaxSealed)); len(f) != api.MaxSealed+8 || err != api.OK {
		t.Errorf("Seal of the most bytes: %d bytes, %v", len(f), err)
	}
}

func TestP4_3Open(t *testing.T) {
	f := laid([]byte("a"))
	other := func(at int) []byte {
		b := slices.Clone(f)
		b[at] ^= 1
		return b
	}
	for _, c := range []struct {
		b    []byte
		body string
		n    int
		err  api.Errno
	}{
		{append(slices.Clone(f), 'x'), "a", 9, api.OK},
		{f, "a", 9, api.OK},
		{laid(nil), "", 8, api.OK},
		{f[:8], "", 0, api.ErrShort},
		{nil, "", 0, api.ErrShort},
		{[]byte{}, "", 0, api.ErrShort},
		{[]byte("x"), "", 0, api.ErrForm},
		{[]byte{0xed}, "", 0, api.ErrShort},
		{[]byte{0xed, 0xed}, "", 0, api.ErrForm},
		{[]byte{0xed, 0x5b}, "", 0, api.ErrShort},
		{[]byte{0xed, 0x5b, 0}, "", 0, api.ErrShort},
		{[]byte{0xed, 0x5b, 0, 0}, "", 0, api.ErrShort},
		{[]byte{0xed, 0x5b, 0, 0, 0, 0, 0}, "", 0, api.ErrShort},
		{[]byte{0xed, 0x5b, 0, 0, 0, 0, 0, 0}, "", 0, api.ErrSum},
		{[]byte{0x5b}, "", 0, api.ErrForm},
		{[]byte{0x5b, 0xed, 0, 0}, "", 0, api.ErrForm},
		{append([]byte{0}, f...), "", 0, api.ErrForm},
		{other(0), "", 0, api.ErrForm},
		{other(1), "", 0, api.ErrForm},
		{other(2), "", 0, api.ErrSum},   // a length of 0, with bytes enough
		{other(3), "", 0, api.ErrShort}, // a length of 257
		{other(4), "", 0, api.ErrSum},
		{other(5), "", 0, api.ErrSum},
		{other(6), "", 0, api.ErrSum},
		{other(7), "", 0, api.ErrSum},
		{other(8), "", 0, api.ErrSum},
		{other(8)[:8], "", 0, api.ErrShort}, // ahead of ErrSum
		{other(1)[:8], "", 0, api.ErrForm},  // ahead of ErrShort
		{append(other(1), f...), "", 0, api.ErrForm},
	} {
		body, n, err := Open(c.b)
		if string(body) != c.body || n != c.n || err != c.err || err != api.OK && body != nil {
			t.Errorf("Open(%x) = %q, %d, %v, want %q, %d, %v", c.b, body, n, err, c.body, c.n, c.err)
		}
	}
}

// All beginnings of up to three bytes, and a mark with every length and a little behind it.
func TestP4_3OpenOfShortBytes(t *testing.T) {
	for x := range 1 << 16 {
		heldToModel(t, []byte{byte(x)})
		heldToModel(t, []byte{byte(x), byte(x >> 8)})
		heldToModel(t, []byte{237, byte(x), byte(x >> 8)})
		heldToModel(t, []byte{237, 91, byte(x), byte(x >> 8)})
		heldToModel(t, []byte{237, 91, byte(x), byte(x >> 8), 0, 0, 0, 0})
	}
}

func TestP4_4All(t *testing.T) {
	a, b, empty := laid([]byte("a")), laid([]byte("bb")), laid(nil)
	bad := slices.Clone(b)
	bad[9] ^= 128
	for _, c := range []struct {
		name string
		b    []byte
		want []string
		n    int
		err  api.Errno
	}{
		{"nothing", nil, nil, 0, api.OK},
		{"one", a, []string{"a"}, 9, api.OK},
		{"an empty one", empty, []string{""}, 8, api.OK},
		{"three", slices.Concat(a, empty, b), []string{"a", "", "bb"}, 27, api.OK},
		{"a mark's beginning behind", slices.Concat(a, b, []byte{237}), []string{"a", "bb"}, 19, api.ErrShort},
		{"a byte behind", slices.Concat(a, b, []byte{0}), []string{"a", "bb"}, 19, api.ErrForm},
		{"one cut off behind", slices.Concat(a, b[:9]), []string{"a"}, 9, api.ErrShort},
		{"another sum behind", slices.Concat(a, bad), []string{"a"}, 9, api.ErrSum},
		{"one behind another sum", slices.Concat(a, bad, a), []string{"a"}, 9, api.ErrSum},
		{"a byte between", slices.Concat(a, []byte("x"), b), []string{"a"}, 9, api.ErrForm},
		{"a byte ahead", slices.Concat([]byte("x"), a, b), nil, 0, api.ErrForm},
		{"another sum ahead", slices.Concat(bad, a), nil, 0, api.ErrSum},
		{"one cut off alone", a[:8], nil, 0, api.ErrShort},
		{"the second example", slices.Concat([]byte("x"), a, []byte{237}, laid([]byte("b"))), nil, 0, api.ErrForm},
	} {
		l, n, err := All(c.b)
		if !slices.EqualFunc(l, c.want, func(b []byte, s string) bool { return string(b) == s }) || n != c.n || err != c.err {
			t.Errorf("%s: All(%x) = %q, %d, %v, want %q, %d, %v", c.name, c.b, l, n, err, c.want, c.n, c.err)
		}
	}
}

func TestP4_5Salvage(t *testing.T) {
	a, b, empty := laid([]byte("a")), laid([]byte("b")), laid(nil)
	bad := slices.Clone(a)
	bad[4] ^= 1
	nested := laid(slices.Concat([]byte("x"), a, b))
	broken := slices.Clone(nested)
	broken[4] ^= 1
	for _, c := range []struct {
		name   string
		b      []byte
		want   []string
		places []int
	}{
		{"nothing", nil, nil, nil},
		{"no frame", []byte("abc"), nil, nil},
		{"a mark alone", []byte{237, 91}, nil, nil},
		{"the second example", slices.Concat([]byte("x"), a, []byte{237}, b), []string{"a", "b"}, []int{1, 11}},
		{"one", a, []string{"a"}, []int{0}},
		{"three", slices.Concat(a, empty, b), []string{"a", "", "b"}, []int{0, 9, 17}},
		{"the same twice", slices.Concat(a, a), []string{"a", "a"}, []int{0, 9}},
		{"a mark ahead", slices.Concat([]byte{237, 91}, a), []string{"a"}, []int{2}},
		{"a mark ahead, with a length that is there", slices.Concat([]byte{237, 91, 1, 0}, a), []string{"a"}, []int{4}},
		{"another sum ahead", slices.Concat(bad, a), []string{"a"}, []int{9}},
		{"another sum between", slices.Concat(a, bad, b), []string{"a", "b"}, []int{0, 18}},
		{"one cut off between", slices.Concat(a, b[:8], b), []string{"a", "b"}, []int{0, 17}},
		{"one cut off behind", slices.Concat(a, b[:8]), []string{"a"}, []int{0}},
		{"bytes behind", slices.Concat(a, []byte("xyz")), []string{"a"}, []int{0}},
		{"frames in a frame", nested, []string{string(nested[4 : len(nested)-4])}, []int{0}},
		{"frames in a frame with another sum", broken, []string{"a", "b"}, []int{5, 14}},
	} {
		l, places := Salvage(c.b)
		if !slices.EqualFunc(l, c.want, func(b []byte, s string) bool { return string(b) == s }) || !slices.Equal(places, c.places) {
			t.Errorf("%s: Salvage(%x) = %q at %v, want %q at %v", c.name, c.b, l, places, c.want, c.places)
		}
	}
}

// A frame that stands whole ahead of another one and reaches into it takes what it reaches: the other one is not found.
func TestP4_5SalvageGoesOnBehindTheFrame(t *testing.T) {
	first := laid([]byte{'x', 237, 91, 20, 0})                    // ends in the beginning of the other frame
	body := slices.Concat(first[len(first)-4:], make([]byte, 16)) // which goes on with the first one's sum
	b := slices.Concat(first[:5], laid(body))
	if l, places := Salvage(b); len(l) != 1 || !bytes.Equal(l[0], b[4:9]) || !slices.Equal(places, []int{0}) {
		t.Errorf("Salvage(%x) = %x at %v", b, l, places)
	}
	if l, places := Salvage(b[1:]); len(l) != 1 || !bytes.Equal(l[0], body) || !slices.Equal(places, []int{4}) {
		t.Errorf("Salvage(%x) = %x at %v", b[1:], l, places)
	}
}

// Marks all over, each with a length that is there, must not take a sum of that length at each of them.
func TestP4_5SalvageOfMarksAlone(t *testing.T) {
	f := laid([]byte("a"))
	for _, piece := range [][]byte{{237, 91}, {237, 91, 255, 255}, {237, 91, 237}} {
		b := bytes.Repeat(piece, 1<<19/len(piece))
		if l, places := Salvage(b); len(l) != 0 || len(places) != 0 {
			t.Errorf("Salvage of %x, again and again: %x at %v", piece, l, places)
		}
		b = append(b, f...)
		if l, places := Salvage(b); len(l) != 1 || string(l[0]) != "a" || !slices.Equal(places, []int{len(b) - len(f)}) {
			t.Errorf("Salvage of %x, again and again, and a frame: %x at %v", piece, l, places)
		}
	}
}

// Who has found enough leaves the frames that are handed out.
func TestP4_5FramesAreLeft(t *testing.T) {
	b := slices.Concat([]byte("x"), laid([]byte("a")), laid([]byte("b")))
	var places []int
	for at, frame := range whole(b) {
		places = append(places, at)
		if !bytes.Equal(frame, laid([]byte("a"))) {
			t.Errorf("at %d: %x", at, frame)
		}
		break
	}
	if !slices.Equal(places, []int{1}) {
		t.Errorf("places %v", places)
	}
}

func TestP4_6ThereAndBack(t *testing.T) {
	for _, body := range bodies() {
		f := sealed(t, body)
		for _, behind := range [][]byte{nil, {0}, {237}, {237, 91}, []byte("x"), f, noise(3, 50)} {
			got, n, err := Open(slices.Concat(f, behind))
			if !bytes.Equal(got, body) || n != len(f) || err != api.OK {
				t.Errorf("Open of the frame of %.40x and %.40x: %.40x, %d, %v", body, behind, got, n, err)
			}
		}
	}
}

func TestP4_7CutOff(t *testing.T) {
	for _, body := range bodies() {
		f := sealed(t, body)
		for n := range len(f) {
			if got, size, err := Open(f[:n]); got != nil || size != 0 || err != api.ErrShort {
				t.Fatalf("Open of %d bytes of %.40x: %x, %d, %v", n, f, got, size, err)
			}
		}
	}
}

// turned is a frame with the bits of a stretch changed of which the pattern has a 1, from a bit on.
func turned(f []byte, from int, pattern uint64) []byte {
	b := slices.Clone(f)
	for i := range 32 {
		if pattern>>i&1 == 1 {
			b[(from+i)/8] ^= 1 << ((from + i) % 8)
		}
	}
	return b
}

// notTheSame asks that a frame, changed so, is none of the same length, whatever stands behind it.
func notTheSame(t *testing.T, f []byte, from int, pattern uint64) {
	t.Helper()
	b := turned(f, from, pattern)
	for _, behind := range [][]byte{nil, make([]byte, 300)} {
		if _, n, err := Open(append(b, behind...)); err == api.OK && n == len(f) {
			t.Fatalf("%.60x, with %x changed from bit %d on, is taken", f, pattern, from)
		}
	}
}

func TestP4_8EveryShortStretch(t *testing.T) {
	for _, body := range [][]byte{nil, []byte("a"), noise(4, 5)} {
		f := sealed(t, body)
		for from := 16; from < 8*len(f); from++ {
			for pattern := uint64(1); pattern < 1<<min(10, 8*len(f)-from); pattern += 2 {
				notTheSame(t, f, from, pattern)
			}
		}
	}
}

func TestP4_8Stretches(t *testing.T) {
	r := rand.New(rand.NewSource(5))
	for _, body := range small() {
		f := sealed(t, body)
		for from := 16; from < 8*len(f); from++ {
			for n := 1; n <= min(32, 8*len(f)-from); n++ {
				ends := uint64(1) | 1<<(n-1)
				notTheSame(t, f, from, ends)
				notTheSame(t, f, from, 1<<n-1)
				notTheSame(t, f, from, ends|r.Uint64()&(1<<n-1))
			}
		}
	}
	f := sealed(t, noise(6, api.MaxSealed))
	for range 300 {
		n := 1 + r.Intn(32)
		notTheSame(t, f, 16+r.Intn(8*len(f)-16-n+1), 1|r.Uint64()&(1<<n-1))
	}
}

// A stretch of 33 bits that is the polynomial is not seen: no sum of 32 bits can do better. It shows that the test above asks at the edge.
func TestP4_8NoMoreThanPromised(t *testing.T) {
	f := sealed(t, []byte("abcdefgh"))
	b := turned(f, 40, 1)
	b = turned(b, 41, uint64(polynomial))
	if got, n, err := Open(b); n != len(f) || err != api.OK || string(got) == "abcdefgh" {
		t.Errorf("Open(%x) = %q, %d, %v", b, got, n, err)
	}
}

// streams are frames one behind the other, with and without other bytes ahead, between and behind, whole and not.
func streams() [][]byte {
	r := rand.New(rand.NewSource(7))
	some := small()
	piece := func() []byte {
		f := laid(some[r.Intn(len(some))])
		switch r.Intn(8) {
		case 0:
			return noise(r.Int63(), r.Intn(12))
		case 1:
			return []byte{237, 91, 237, 91}[:r.Intn(5)]
		case 2:
			return f[:r.Intn(len(f))]
		case 3:
			f[r.Intn(len(f))] ^= 1 << r.Intn(8)
			return f
		case 4:
			return []byte{237, 91, byte(r.Intn(30)), 0}
		}
		return f
	}
	var l [][]byte
	for range 3000 {
		var b []byte
		for range r.Intn(7) {
			b = append(b, piece()...)
		}
		l = append(l, b)
	}
	return l
}

func TestP4_4And5ByTheWords(t *testing.T) {
	for _, b := range streams() {
		heldToModel(t, b)
	}
	for _, body := range bodies() {
		heldToModel(t, laid(body))
		heldToModel(t, slices.Concat([]byte{237}, laid(body), laid(body), []byte{237, 91, 0}))
	}
}

// Bytes of an alphabet of few, so that marks, lengths and sums come about.
func TestP4_5FrameOfEveryFewBytes(t *testing.T) {
	f := laid(nil)
	letters := []byte{237, 91, 0, f[4], f[5]}
	b := make([]byte, 7)
	for x := range 5 * 5 * 5 * 5 * 5 * 5 * 5 {
		for i := range b {
			b[i] = letters[x%5]
			x /= 5
		}
		heldToModel(t, b)
		heldToModel(t, slices.Concat(b, f, b))
	}
}

func TestP4_9AllTellsABeginning(t *testing.T) {
	for _, b := range streams() {
		l, n, _ := All(b)
		found, places := Salvage(b)
		if len(l) > len(found) || !sameBodies(l, found[:len(l)]) {
			t.Fatalf("All(%x) = %x, Salvage %x", b, l, found)
		}
		at := 0
		for i := range l {
			if places[i] != at {
				t.Fatalf("Salvage(%x) finds %d at %d, All at %d", b, i, places[i], at)
			}
			at += len(l[i]) + 8
		}
		if at != n {
			t.Fatalf("All(%x) tells %d bytes, its frames have %d", b, n, at)
		}
	}
}

func TestP4_9WholeFramesAlone(t *testing.T) {
	l := bodies()
	var b []byte
	var at []int
	for _, body := range l {
		at = append(at, len(b))
		b = append(b, sealed(t, body)...)
	}
	if got, n, err := All(b); !sameBodies(got, l) || n != len(b) || err != api.OK {
		t.Errorf("All of %d frames: %d, %d of %d bytes, %v", len(l), len(got), n, len(b), err)
	}
	if got, places := Salvage(b); !sameBodies(got, l) || !slices.Equal(places, at) {
		t.Errorf("Salvage of %d frames: %d at %v, want %v", len(l), len(got), places, at)
	}
}

// reachesIn tells whether a frame stands whole from a place ahead of n on, and ends behind n.
func reachesIn(b []byte, n int) bool {
	for at := range n {
		if _, size, err := opened(b[at:]); err == api.OK && at+size > n {
			return true
		}
	}
	return false
}

func TestP4_10EveryFrameIsFound(t *testing.T) {
	ahead := append(streams(), nil, []byte{237}, []byte{237, 91}, []byte{237, 91, 1}, []byte{237, 91, 1, 0}, []byte{237, 91, 255, 255}, noise(8, 70000))
	some := small()
	for i, junk := range ahead {
		body := some[i%len(some)]
		b := slices.Concat(junk, sealed(t, body), junk)
		if reachesIn(b, len(junk)) {
			continue
		}
		l, places := Salvage(b)
		k := slices.Index(places, len(junk))
		if k < 0 || !bytes.Equal(l[k], body) {
			t.Fatalf("the frame of %x behind %.200x is not found", body, junk)
		}
	}
}

// within is b as a part of a longer list, with spare room that has bytes in it.
func within(b []byte) ([]byte, []byte) {
	whole := slices.Concat(b, bytes.Repeat([]byte{237, 91, 7}, 20))
	return whole[:len(b)], whole
}

func TestWhatIsHandedInStaysAsItWas(t *testing.T) {
	for _, body := range small() {
		for _, b := range [][]byte{body, laid(body), slices.Concat(laid(body), laid(body)), slices.Concat([]byte("x"), laid(body), []byte{237})} {
			in, all := within(b)
			was := slices.Clone(all)
			Sum(in)
			Seal(in)
			Open(in)
			All(in)
			Salvage(in)
			if !bytes.Equal(all, was) {
				t.Fatalf("%x became %x", was, all)
			}
		}
	}
}

func TestSpareRoomPlaysNoPart(t *testing.T) {
	two := slices.Concat(laid([]byte("ab")), laid([]byte("c")))
	for n := range len(two) {
		cut, short := two[:n], slices.Clone(two[:n])
		body, size, err := Open(cut)
		want, wantSize, wantErr := Open(short)
		if !bytes.Equal(body, want) || size != wantSize || err != wantErr {
			t.Errorf("Open of %d bytes: %x, %d, %v, want %x, %d, %v", n, body, size, err, want, wantSize, wantErr)
		}
		if f, g := sealed(t, cut), sealed(t, short); !bytes.Equal(f, g) || Sum(cut) != Sum(short) {
			t.Errorf("Seal of %d bytes: %x, want %x", n, f, g)
		}
		heldToModel(t, cut)
	}
}

// scrawl writes over a list and its spare room.
func scrawl(b []byte) {
	b = b[:cap(b)]
	for i := range b {
		b[i] ^= 0xaa
	}
}

func TestAnswersAreMemoryOfTheirOwn(t *testing.T) {
	texts := []string{"a", "", "bcd", "123456789", "ef"}
	stream := func() []byte {
		var b []byte
		for _, s := range texts {
			b = append(b, laid([]byte(s))...)
		}
		return b
	}
	telling := func(name string, l [][]byte, b []byte) {
		t.Helper()
		scrawl(b)
		for i, s := range texts {
			if string(l[i]) != s {
				t.Errorf("%s: %q became %q", name, s, l[i])
			}
			scrawl(l[i])
		}
	}
	b := stream()
	l, _, _ := All(b)
	telling("All", l, b)
	b = stream()
	l, _ = Salvage(b)
	telling("Salvage", l, b)

	b = stream()
	body, _, _ := Open(b)
	scrawl(body)
	if !bytes.Equal(b, stream()) {
		t.Errorf("Open gives out what was handed in: %x", b)
	}
	body, _, _ = Open(b)
	telling("Open", [][]byte{body, {}, []byte("bcd"), []byte("123456789"), []byte("ef")}, b)

	in := []byte("abc")
	f := sealed(t, in)
	scrawl(in)
	if !bytes.Equal(f, laid([]byte("abc"))) {
		t.Errorf("Seal keeps what was handed in: %x", f)
	}
	in = []byte("abc")
	scrawl(sealed(t, in))
	if string(in) != "abc" {
		t.Errorf("Seal gives out what was handed in: %q", in)
	}
	first, second := sealed(t, in), sealed(t, in)
	scrawl(first)
	if !bytes.Equal(second, laid(in)) {
		t.Errorf("two frames share memory: %x", second)
	}
}
