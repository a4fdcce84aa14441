package wire

import (
	"bytes"
	"hash/crc32"
	"math/rand"
	"slices"
	"testing"

	"eddy/api"
)

// The bytes of a packet by the document's words.

func laidNumber(x uint64) []byte {
	var b []byte
	for x > 127 {
		b = append(b, byte(x%128)+128)
		x /= 128
	}
	return append(b, byte(x))
}

func laidSigned(x int64) []byte {
	if x >= 0 {
		return laidNumber(2 * uint64(x))
	}
	return laidNumber(2*uint64(-(x+1)) + 1)
}

func laidFlag(is bool) []byte {
	if is {
		return []byte{1}
	}
	return []byte{0}
}

func laidExt(x api.Ext) []byte {
	return slices.Concat(laidFlag(x.Has), laidSigned(x.Value), laidNumber(uint64(x.Origin)), laidNumber(uint64(x.Age)))
}

func laidItem(x api.Item) []byte {
	c := x.Chan
	return slices.Concat(laidNumber(uint64(len(c.Name))), []byte(c.Name), laidNumber(uint64(c.Epoch)), laidNumber(uint64(c.Maker)), laidFlag(c.Alive), laidNumber(uint64(c.Kind)), laidNumber(uint64(c.Scale)),
		laidNumber(uint64(x.Reg.Ver)), laidNumber(uint64(x.Reg.Writer)), laidSigned(x.Reg.Flow), laidFlag(x.HasRest), laidSigned(x.Rest), laidExt(x.Min), laidExt(x.Max))
}

// laidHead is a packet's own fields, with any number in the place of how many Items there are.
func laidHead(p api.Packet, count uint64) []byte {
	var b []byte
	for _, x := range []int64{int64(p.Kind), int64(p.From), int64(p.To), p.Boot, p.Life, p.Echo, p.EchoLife} {
		b = append(b, laidNumber(uint64(x))...)
	}
	return append(b, laidNumber(count)...)
}

func laidBody(p api.Packet) []byte {
	b := laidHead(p, uint64(len(p.Items)))
	for _, x := range p.Items {
		b = append(b, laidItem(x)...)
	}
	return b
}

// framed is a body in a frame.
func framed(body []byte) []byte {
	summed := append([]byte{byte(len(body)), byte(len(body) >> 8)}, body...)
	sum := crc32.ChecksumIEEE(summed)
	return slices.Concat([]byte{237, 91}, summed, []byte{byte(sum), byte(sum >> 8), byte(sum >> 16), byte(sum >> 24)})
}

func laid(p api.Packet) []byte { return framed(laidBody(p)) }

// numbersIn are all numbers of a packet that are laid from 0 on: one below 0 has no bytes.
func numbersIn(p api.Packet) []int64 {
	l := []int64{int64(p.Kind), int64(p.From), int64(p.To), p.Boot, p.Life, p.Echo, p.EchoLife}
	for _, x := range p.Items {
		l = append(l, x.Chan.Epoch, int64(x.Chan.Maker), int64(x.Chan.Kind), x.Chan.Scale, x.Reg.Ver, int64(x.Reg.Writer), int64(x.Min.Origin), x.Min.Age, int64(x.Max.Origin), x.Max.Age)
	}
	return l
}

func hasBytes(p api.Packet) bool { return slices.Min(numbersIn(p)) >= 0 }

// The reading of a packet by the document's words.

// bits are bytes that are read from the beginning on; none says that they were of another form.
type bits struct {
	b    []byte
	none bool
}

func (r *bits) raw() uint64 {
	x := uint64(0)
	for n := range 10 {
		if len(r.b) == 0 {
			break
		}
		c := r.b[0]
		r.b = r.b[1:]
		x += uint64(c%128) << (7 * n)
		if c < 128 {
			r.none = r.none || c == 0 && n > 0 || n == 9 && c > 1
			return x
		}
	}
	r.none = true
	return 0
}

func (r *bits) number() int64 {
	x := r.raw()
	r.none = r.none || x > greatest
	return int64(x)
}

func (r *bits) signed() int64 {
	x := r.raw()
	if x%2 == 1 {
		return -int64(x/2) - 1
	}
	return int64(x / 2)
}

func (r *bits) flag() bool {
	x := r.raw()
	r.none = r.none || x > 1
	return x == 1
}

func (r *bits) text() string {
	n := r.raw()
	if r.none || n > uint64(len(r.b)) {
		r.none = true
		return ""
	}
	s := string(r.b[:n])
	r.b = r.b[n:]
	return s
}

func (r *bits) ext() api.Ext {
	return api.Ext{Has: r.flag(), Value: r.signed(), Origin: int(r.number()), Age: r.number()}
}

func (r *bits) item() api.Item {
	var x api.Item
	x.Chan = api.Chan{Name: r.text(), Epoch: r.number(), Maker: int(r.number()), Alive: r.flag(), Kind: int(r.number()), Scale: r.number()}
	x.Reg = api.Reg{Ver: r.number(), Writer: int(r.number()), Flow: r.signed()}
	x.HasRest, x.Rest = r.flag(), r.signed()
	x.Min = r.ext()
	x.Max = r.ext()
	return x
}

// readBody is what a body says, and whether it is a packet.
func readBody(body []byte) (api.Packet, api.Errno) {
	r := bits{b: body}
	p := api.Packet{Kind: int(r.number()), From: int(r.number()), To: int(r.number()), Boot: r.number(), Life: r.number(), Echo: r.number(), EchoLife: r.number()}
	count := r.number()
	for n := int64(0); n < count && !r.none; n++ {
		p.Items = append(p.Items, r.item())
	}
	if r.none || len(r.b) > 0 {
		return api.Packet{}, api.ErrForm
	}
	if !fitByWords(p) {
		return api.Packet{}, api.ErrState
	}
	return p, api.OK
}

func openFrame(b []byte) ([]byte, int, api.Errno) {
	mark := []byte{237, 91}
	if !bytes.HasPrefix(b, mark) && !bytes.HasPrefix(mark, b) {
		return nil, 0, api.ErrForm
	}
	if len(b) < 4 || len(b) < 8+int(b[2])+256*int(b[3]) {
		return nil, 0, api.ErrShort
	}
	body := b[4 : 4+int(b[2])+256*int(b[3])]
	if !bytes.HasPrefix(b, framed(body)) {
		return nil, 0, api.ErrSum
	}
	return body, len(body) + 8, api.OK
}

func decoded(b []byte) (api.Packet, api.Errno) {
	body, n, err := openFrame(b)
	if err != api.OK {
		return api.Packet{}, err
	}
	if n < len(b) {
		return api.Packet{}, api.ErrForm
	}
	return readBody(body)
}

func decodedAll(b []byte) ([]api.Packet, int, api.Errno) {
	var l []api.Packet
	at := 0
	for len(b) > at {
		body, n, err := openFrame(b[at:])
		if err != api.OK {
			return l, at, err
		}
		p, err := readBody(body)
		if err != api.OK {
			return l, at, err
		}
		l = append(l, p)
		at += n
	}
	return l, at, api.OK
}

func fitByWords(p api.Packet) bool {
	boots, lives, nodes := span{1, 1 << 40}, span{0, 1 << 40}, span{0, 15}
	wrong := p.Kind < 1 || p.Kind > 5 || !nodes.has(int64(p.From)) || !nodes.has(int64(p.To)) || p.From == p.To || !boots.has(p.Boot) || !lives.has(p.Life)
	if p.Kind == api.PkHello {
		wrong = wrong || p.Echo != 0 || p.EchoLife != 0
	} else {
		wrong = wrong || !boots.has(p.Echo) || !lives.has(p.EchoLife)
	}
	if p.Kind == api.PkAsk || p.Kind == api.PkAnswer {
		wrong = wrong || len(p.Items) > 8
	} else {
		wrong = wrong || len(p.Items) > 0
	}
	for i, x := range p.Items {
		wrong = wrong || !itemByWords(x)
		for _, y := range p.Items[i+1:] {
			wrong = wrong || x.Chan.Name >= y.Chan.Name
		}
	}
	return !wrong
}

func itemByWords(x api.Item) bool {
	c := x.Chan
	nodes, flows := span{0, 15}, span{-(1<<31 - 1), 1<<31 - 1}
	scale, epochs, vers, ages := span{1, 1 << 20}, span{1, 1 << 40}, span{1, 1 << 40}, span{0, 63}
	if c.Kind == api.KExt {
		scale.greatest = 1
	}
	wrong := len(c.Name) == 0 || len(c.Name) > 16 || bytes.Trim([]byte(c.Name), "abcdefghijklmnopqrstuvwxyz0123456789_") != nil
	wrong = wrong || !epochs.has(c.Epoch) || !nodes.has(int64(c.Maker)) || c.Kind < 1 || c.Kind > 4 || !scale.has(c.Scale)
	noReg := x.Reg.Ver == 0 && x.Reg.Writer == 0 && x.Reg.Flow == 0
	noRest := !x.HasRest && x.Rest == 0
	aReg := vers.has(x.Reg.Ver) && nodes.has(int64(x.Reg.Writer)) && flows.has(x.Reg.Flow)
	if c.Alive && c.Kind != api.KExt {
		wrong = wrong || !noReg && !aReg || !noRest && !(x.HasRest && flows.has(x.Rest))
	} else {
		wrong = wrong || !noReg || !noRest
	}
	for _, e := range []api.Ext{x.Min, x.Max} {
		none := !e.Has && e.Value == 0 && e.Origin == 0 && e.Age == 0
		one := e.Has && flows.has(e.Value) && nodes.has(int64(e.Origin)) && ages.has(e.Age)
		wrong = wrong || !none && !(one && c.Alive && c.Kind == api.KExt)
	}
	return !wrong
}

// Packets that are tried.

func pick[T any](r *rand.Rand, l ...T) T { return l[r.Intn(len(l))] }

// between is a number of a range, often one of its ends.
func between(r *rand.Rand, lo, hi int64) int64 {
	return pick(r, lo, hi, lo+r.Int63n(hi-lo+1), lo+r.Int63n(min(hi-lo, 300)+1))
}

func drawnExt(r *rand.Rand) api.Ext {
	if r.Intn(3) == 0 {
		return api.Ext{}
	}
	return api.Ext{Has: true, Value: between(r, -api.MaxFlow, api.MaxFlow), Origin: r.Intn(16), Age: between(r, 0, 63)}
}

func drawnItem(r *rand.Rand, name string) api.Item {
	x := api.Item{Chan: api.Chan{Name: name, Epoch: between(r, 1, 1<<40), Maker: r.Intn(16), Alive: r.Intn(5) > 0, Kind: 1 + r.Intn(4), Scale: between(r, 1, 1<<20)}}
	if x.Chan.Kind == api.KExt {
		x.Chan.Scale = 1
	}
	switch {
	case !x.Chan.Alive:
	case x.Chan.Kind == api.KExt:
		x.Min, x.Max = drawnExt(r), drawnExt(r)
	default:
		if r.Intn(4) > 0 {
			x.Reg = api.Reg{Ver: between(r, 1, 1<<40), Writer: r.Intn(16), Flow: between(r, -api.MaxFlow, api.MaxFlow)}
		}
		if r.Intn(3) > 0 {
			x.HasRest, x.Rest = true, between(r, -api.MaxFlow, api.MaxFlow)
		}
	}
	return x
}

func drawnName(r *rand.Rand) string {
	b := make([]byte, pick(r, 1, 16, 1+r.Intn(16)))
	for i := range b {
		b[i] = "abcdefghijklmnopqrstuvwxyz0123456789_"[r.Intn(37)]
	}
	return string(b)
}

// drawn is a fit packet.
func drawn(r *rand.Rand) api.Packet {
	p := api.Packet{Kind: 1 + r.Intn(5), From: r.Intn(16), Boot: between(r, 1, 1<<40), Life: between(r, 0, 1<<40)}
	p.To = (p.From + 1 + r.Intn(15)) % 16
	if p.Kind != api.PkHello {
		p.Echo, p.EchoLife = between(r, 1, 1<<40), between(r, 0, 1<<40)
	}
	if p.Kind == api.PkAsk || p.Kind == api.PkAnswer {
		var names []string
		for range pick(r, 0, 1, 8, r.Intn(9)) {
			names = append(names, drawnName(r))
		}
		slices.Sort(names)
		for _, name := range slices.Compact(names) {
			p.Items = append(p.Items, drawnItem(r, name))
		}
	}
	return p
}

// longest is a fit packet of as many bytes as there may be.
func longest() api.Packet {
	p := api.Packet{Kind: api.PkAnswer, From: 15, To: 14, Boot: api.MaxBoot, Life: api.MaxLife, Echo: api.MaxBoot, EchoLife: api.MaxLife}
	for i := range 8 {
		name := "zzzzzzzzzzzzzzz" + string(rune('a'+i))
		p.Items = append(p.Items, api.Item{Chan: api.Chan{Name: name, Epoch: api.MaxEpoch, Maker: 15, Alive: true, Kind: api.KSquare, Scale: api.MaxScale}, Reg: api.Reg{Ver: api.MaxVer, Writer: 15, Flow: -api.MaxFlow}, HasRest: true, Rest: -api.MaxFlow})
	}
	return p
}

// fitPackets are those of the edges, and others.
func fitPackets() []api.Packet {
	l := []api.Packet{longest()}
	for _, c := range packetCases() {
		if c.want {
			l = append(l, c.packet)
		}
	}
	r := rand.New(rand.NewSource(1))
	for range 500 {
		l = append(l, drawn(r))
	}
	return l
}

// fewPackets are some of every sort.
func fewPackets() []api.Packet {
	return []api.Packet{hello(), packet(api.PkWelcome), packet(api.PkAsk), packet(api.PkAsk, flow("m")), packet(api.PkAnswer, dead("a"), ext("b"), flow("c")), packet(api.PkAnswer, named(8)...), packet(api.PkBye), longest()}
}

// deep is a packet in memory of its own.
func deep(p api.Packet) api.Packet {
	p.Items = slices.Clone(p.Items)
	return p
}

// equal holds packets against each other by another way than the program does.
func equal(a, b api.Packet) bool {
	x, y := deep(a), deep(b)
	x.Items, y.Items = nil, nil
	heads := [7]int64{int64(x.Kind), int64(x.From), int64(x.To), x.Boot, x.Life, x.Echo, x.EchoLife} == [7]int64{int64(y.Kind), int64(y.From), int64(y.To), y.Boot, y.Life, y.Echo, y.EchoLife}
	if !heads || len(a.Items) != len(b.Items) {
		return false
	}
	for i := range a.Items {
		if a.Items[i] != b.Items[i] {
			return false
		}
	}
	return true
}

// heldToModel holds Decode and All of b to the document's words.
func heldToModel(t *testing.T, b []byte) {
	t.Helper()
	was := slices.Clone(b)
	p, err := Decode(b)
	wantP, wantErr := decoded(b)
	if !equal(p, wantP) || err != wantErr {
		t.Fatalf("Decode(%.300x) = %#v, %v, want %#v, %v", b, p, err, wantP, wantErr)
	}
	if err == api.OK && !bytes.Equal(Encode(p), b) {
		t.Fatalf("Encode of what Decode takes: %x, not %x", Encode(p), b)
	}
	l, n, err := All(b)
	wantL, wantN, wantErr := decodedAll(b)
	if !slices.EqualFunc(l, wantL, equal) || n != wantN || err != wantErr {
		t.Fatalf("All(%.300x) = %#v, %d, %v, want %#v, %d, %v", b, l, n, err, wantL, wantN, wantErr)
	}
	if !bytes.Equal(b, was) {
		t.Fatalf("%x was changed to %x", was, b)
	}
}

// refused asks that Decode answers this error, and nothing beside it.
func refused(t *testing.T, name string, b []byte, want api.Errno) {
	t.Helper()
	if p, err := Decode(b); !equal(p, api.Packet{}) || err != want {
		t.Errorf("%s: Decode(%.300x) = %#v, %v, want %v", name, b, p, err, want)
	}
	heldToModel(t, b)
}

func TestP5_1FitOfManyWrongsAtOnce(t *testing.T) {
	r := rand.New(rand.NewSource(2))
	nums := []int64{-1, 0, 0, 0, 1, 1, 2, 3, 4, 5, 15, 16, 63, 64, 1 << 20, 1<<20 + 1, 1<<31 - 1, 1 << 31, -(1<<31 - 1), -1 << 31, 1 << 40, 1<<40 + 1}
	fit := 0
	for range 300000 {
		p := drawn(r)
		for range 1 + r.Intn(3) {
			change(r, &p, pick(r, nums...))
		}
		want := fitByWords(p)
		if want {
			fit++
		}
		if got := Fit(p); got != want {
			t.Fatalf("Fit(%#v) = %v", p, got)
		}
	}
	if fit < 10000 || fit > 290000 {
		t.Errorf("%d of 300000 are fit", fit)
	}
}

// change puts a number somewhere into a packet.
func change(r *rand.Rand, p *api.Packet, n int64) {
	if r.Intn(3) == 0 || len(p.Items) == 0 {
		ints, nums := []*int{&p.Kind, &p.From, &p.To}, []*int64{&p.Boot, &p.Life, &p.Echo, &p.EchoLife}
		put(r, ints, nums, n)
		return
	}
	x := &p.Items[r.Intn(len(p.Items))]
	switch r.Intn(6) {
	case 0:
		truth := pick(r, &x.Chan.Alive, &x.HasRest, &x.Min.Has, &x.Max.Has)
		*truth = !*truth
	case 1:
		x.Chan.Name = pick(r, "", "a", "zzzzzzzzzzzzzzzz", "zzzzzzzzzzzzzzzzz", "Z", x.Chan.Name+"_")
	default:
		put(r, []*int{&x.Chan.Maker, &x.Chan.Kind, &x.Reg.Writer, &x.Min.Origin, &x.Max.Origin}, []*int64{&x.Chan.Epoch, &x.Chan.Scale, &x.Reg.Ver, &x.Reg.Flow, &x.Rest, &x.Min.Value, &x.Min.Age, &x.Max.Value, &x.Max.Age}, n)
	}
}

func put(r *rand.Rand, ints []*int, nums []*int64, n int64) {
	if at := r.Intn(len(ints) + len(nums)); at < len(ints) {
		*ints[at] = int(n)
	} else {
		*nums[at-len(ints)] = n
	}
}

func TestP5_2Examples(t *testing.T) {
	b := Encode(hello())
	body := []byte{0xed, 0x5b, 9, 0, 1, 3, 5, 0xac, 2, 0, 0, 0, 0}
	sum := crc32.ChecksumIEEE(body[2:])
	if want := append(body, byte(sum), byte(sum>>8), byte(sum>>16), byte(sum>>24)); !bytes.Equal(b, want) {
		t.Errorf("a Hello: %x, not %x", b, want)
	}
	if b := Encode(as(hello(), func(p *api.Packet) { p.To = 3 })); len(b) != 0 {
		t.Errorf("a Hello to itself: %x", b)
	}
	x := api.Item{Chan: api.Chan{Name: "m", Epoch: 1, Alive: true, Kind: api.KMean, Scale: 4}, Reg: api.Reg{Ver: 1, Writer: 2, Flow: -7}, HasRest: true, Rest: 9}
	b = Encode(packet(api.PkAsk, x))
	want := []byte{3, 0, 1, 2, 3, 4, 5, 1, 1, 0x6d, 1, 0, 1, 1, 4, 1, 2, 0x0d, 1, 0x12, 0, 0, 0, 0, 0, 0, 0, 0}
	if !bytes.Equal(b, framed(want)) {
		t.Errorf("an Ask: %x, not %x", b, framed(want))
	}
	x = ext("e")
	b = Encode(packet(api.PkAnswer, x))
	want = []byte{4, 0, 1, 2, 3, 4, 5, 1, 1, 0x65, 7, 3, 1, 4, 1, 0, 0, 0, 0, 0, 1, 5, 4, 5, 1, 16, 9, 10}
	if !bytes.Equal(b, framed(want)) {
		t.Errorf("an Answer: %x, not %x", b, framed(want))
	}
}

func TestP5_2Encode(t *testing.T) {
	for _, p := range fitPackets() {
		kept := deep(p)
		if got, want := Encode(p), laid(p); !bytes.Equal(got, want) {
			t.Errorf("Encode(%#v) = %x, not %x", p, got, want)
		}
		if !equal(p, kept) {
			t.Errorf("Encode has changed %#v to %#v", kept, p)
		}
	}
}

func TestP5_2NoneIfItIsNotFit(t *testing.T) {
	for _, c := range packetCases() {
		kept := deep(c.packet)
		if b := Encode(c.packet); (len(b) > 0) != c.want {
			t.Errorf("%s: Encode(%#v) = %x", c.name, c.packet, b)
		}
		if !equal(c.packet, kept) {
			t.Errorf("Encode has changed %#v to %#v", kept, c.packet)
		}
	}
}

func TestP5_2MemoryOfItsOwn(t *testing.T) {
	whole := append(named(3), flow("q"), ext("r"))
	p := packet(api.PkAsk)
	p.Items = whole[:3]
	kept := slices.Clone(whole)
	first, again := Encode(p), Encode(p)
	want := slices.Clone(again)
	all := first[:cap(first)]
	for i := range all {
		all[i] = 0x55
	}
	if !bytes.Equal(again, want) || !bytes.Equal(Encode(p), want) {
		t.Error("answers of Encode share memory")
	}
	if !slices.Equal(whole, kept) {
		t.Errorf("%#v was changed to %#v", kept, whole)
	}
}

func TestP5_3Examples(t *testing.T) {
	b := laid(hello())
	if p, err := Decode(b); !equal(p, hello()) || err != api.OK {
		t.Errorf("Decode(%x) = %#v, %v", b, p, err)
	}
	refused(t, "one byte behind", append(slices.Clone(b), 0), api.ErrForm)
	refused(t, "without the last byte", b[:len(b)-1], api.ErrShort)
	for i := range 4 {
		turned := slices.Clone(b)
		turned[len(b)-1-i] ^= 1
		refused(t, "the sum turned", turned, api.ErrSum)
	}
	refused(t, "not fit", laid(as(hello(), func(p *api.Packet) { p.To = 3 })), api.ErrState)
	refused(t, "nothing", nil, api.ErrShort)
	refused(t, "an empty list", []byte{}, api.ErrShort)
	refused(t, "no frame", []byte("x"), api.ErrForm)
	refused(t, "an empty body", framed(nil), api.ErrForm)
}

func TestP5_3CutOff(t *testing.T) {
	for _, p := range fewPackets() {
		b := laid(p)
		for n := range len(b) {
			refused(t, "cut off", b[:n], api.ErrShort)
		}
		body := laidBody(p)
		for n := range len(body) {
			refused(t, "a body cut off", framed(body[:n]), api.ErrForm)
		}
	}
}

func TestP5_3BytesBehind(t *testing.T) {
	for _, p := range fewPackets() {
		b, body := laid(p), laidBody(p)
		for _, behind := range [][]byte{{0}, {1}, {0x80}, {237}, {237, 91}, {255, 255}, laid(hello()), b, make([]byte, 300)} {
			refused(t, "behind the frame", slices.Concat(b, behind), api.ErrForm)
			refused(t, "within the body", framed(slices.Concat(body, behind)), api.ErrForm)
			refused(t, "behind the frame and within the body", append(framed(slices.Concat(body, behind)), behind...), api.ErrForm)
		}
	}
}

func TestP5_3OneByteTurned(t *testing.T) {
	for _, p := range fewPackets() {
		b := laid(p)
		for i := range b {
			for x := 1; x < 256; x++ {
				if len(b) > 100 && x&(x-1) != 0 {
					continue // of a long one each bit alone
				}
				turned := slices.Clone(b)
				turned[i] ^= byte(x)
				if _, err := Decode(turned); err == api.OK {
					t.Fatalf("Decode takes %x", turned)
				}
				heldToModel(t, turned)
			}
		}
	}
}

// A sum that fits says nothing of what it is the sum of: each byte of a body stands for every other one.
func TestP5_3OtherBodies(t *testing.T) {
	errs := map[api.Errno]int{}
	for _, p := range fewPackets() {
		body := laidBody(p)
		for i := range body {
			for x := range 256 {
				if len(body) > 100 && x%31 != 0 && x > 5 {
					continue
				}
				other := slices.Clone(body)
				other[i] = byte(x)
				heldToModel(t, framed(other))
				_, err := Decode(framed(other))
				errs[err]++
			}
		}
	}
	if errs[api.OK] == 0 || errs[api.ErrForm] == 0 || errs[api.ErrState] == 0 || len(errs) != 3 {
		t.Errorf("bodies with one byte changed: %v", errs)
	}
}

// Bytes put in and taken out, anywhere in a body.
func TestP5_3BodiesLongerAndShorter(t *testing.T) {
	for _, p := range fewPackets() {
		body := laidBody(p)
		for i := range len(body) + 1 {
			for _, x := range []byte{0, 1, 2, 0x7f, 0x80, 0x81, 0xff} {
				heldToModel(t, framed(slices.Insert(slices.Clone(body), i, x)))
			}
			for n := 1; n <= 20 && i+n <= len(body); n++ {
				heldToModel(t, framed(slices.Delete(slices.Clone(body), i, i+n)))
			}
		}
	}
}

// All bodies of few bytes, of which the first ones are a packet's own.
func TestP5_3ShortBodies(t *testing.T) {
	for x := range 1 << 16 {
		end := []byte{byte(x), byte(x >> 8)}
		heldToModel(t, framed(end))
		heldToModel(t, framed(slices.Concat([]byte{3, 3, 5, 1, 0, 1}, end)))
		heldToModel(t, framed(slices.Concat([]byte{3, 3, 5, 1, 0}, end, []byte{0})))
		heldToModel(t, framed(slices.Concat(end, []byte{5, 1, 0, 0, 0, 0})))
	}
}

func TestP5_3NotFit(t *testing.T) {
	for _, c := range packetCases() {
		if !c.want && hasBytes(c.packet) {
			refused(t, c.name, laid(c.packet), api.ErrState)
		}
	}
}

// The form is asked ahead of what is fit.
func TestP5_3FormAheadOfState(t *testing.T) {
	for _, c := range itemsCases() {
		if c.want || !hasBytes(c.packet) {
			continue
		}
		body := laidBody(c.packet)
		refused(t, c.name+", cut off", framed(body[:len(body)-1]), api.ErrForm)
		refused(t, c.name+", with a byte behind", framed(append(body, 0)), api.ErrForm)
		refused(t, c.name+", with a byte behind the frame", append(laid(c.packet), 0), api.ErrForm)
		sum := laid(c.packet)
		sum[len(sum)-1] ^= 128
		refused(t, c.name+", with another sum", sum, api.ErrSum)
		refused(t, c.name+", with another sum and a byte behind", append(sum, 0), api.ErrSum)
	}
}

// Numbers have one form, and those from 0 on are at most 2^63 - 1.
func TestP5_3NumbersOfOtherForms(t *testing.T) {
	most, beyond := laidNumber(greatest), laidNumber(greatest+1)
	eleven := append(bytes.Repeat([]byte{0x80}, 10), 1)
	for at := range 8 {
		for _, c := range []struct {
			name string
			x    []byte
			want api.Errno
		}{{"the most", most, api.ErrState}, {"beyond the most", beyond, api.ErrForm}, {"all ones", laidNumber(1<<64 - 1), api.ErrForm}, {"a last byte 0", []byte{0x81, 0}, api.ErrForm}, {"nought in two bytes", []byte{0x80, 0}, api.ErrForm}, {"eleven bytes", eleven, api.ErrForm}} {
			if at == 7 {
				c.want = api.ErrForm // so many Items are not there
			}
			body := []byte{1, 3, 5, 1, 0, 0, 0, 0}
			refused(t, c.name, framed(slices.Concat(body[:at], c.x, body[at+1:])), c.want)
		}
	}
	item := laidItem(bare("m", api.KExt))
	for at := 2; at < len(item); at++ {
		for _, x := range [][]byte{most, beyond, laidNumber(1<<64 - 1), {0x81, 0}, {0x80, 0}, eleven, {2}} {
			heldToModel(t, framed(slices.Concat(laidHead(packet(api.PkAsk), 1), item[:at], x, item[at+1:])))
		}
	}
}

func TestP5_3HowManyItems(t *testing.T) {
	p := packet(api.PkAsk, named(3)...)
	items := laidBody(p)[8:]
	for n := range uint64(20) {
		want := api.ErrForm
		if n == 3 {
			want = api.OK
		}
		if got, err := Decode(framed(append(laidHead(p, n), items...))); err != want || err == api.OK && !equal(got, p) {
			t.Errorf("%d items said, 3 there: %v", n, err)
		}
	}
	for _, n := range []uint64{100, 1 << 16, 1 << 31, 1 << 32, 1<<32 + 3, 1 << 40, greatest, greatest + 1, 1<<64 - 1} {
		refused(t, "more than there are", framed(append(laidHead(p, n), items...)), api.ErrForm)
		refused(t, "more than none", framed(laidHead(p, n)), api.ErrForm)
	}
	for _, kind := range []int{api.PkHello, api.PkWelcome, api.PkBye} {
		refused(t, "a kind without items", laid(as(p, func(p *api.Packet) { p.Kind = kind })), api.ErrState)
	}
}

// The longest body is one of far too many Items, and is of the form.
func TestP5_3TheLongestBody(t *testing.T) {
	p := packet(api.PkAnswer)
	for len(laidBody(p)) < api.MaxSealed-50 {
		p.Items = append(p.Items, named(200)...)
		for len(laidBody(p)) > api.MaxSealed {
			p.Items = p.Items[:len(p.Items)-1]
		}
	}
	refused(t, "far too many items", laid(p), api.ErrState)
	body := laidBody(p)
	refused(t, "one byte less", framed(body[:len(body)-1]), api.ErrForm)
}

func TestP5_3MemoryOfItsOwn(t *testing.T) {
	p := packet(api.PkAnswer, dead("a"), ext("b"), flow("c"))
	b := laid(p)
	first, err := Decode(b)
	again, _ := Decode(b)
	all := first.Items[:cap(first.Items)]
	for i := range all {
		all[i] = api.Item{Rest: 5}
	}
	for i := range b {
		b[i] = 0x55
	}
	if err != api.OK || !equal(again, p) {
		t.Errorf("what Decode has read became %#v", again)
	}
	whole := append(laid(p), 9, 9, 9)
	if got, err := Decode(whole[:len(whole)-3]); err != api.OK || !equal(got, p) || !bytes.Equal(whole[len(whole)-3:], []byte{9, 9, 9}) {
		t.Errorf("with spare room: %#v, %v", got, err)
	}
}

func TestP5_4All(t *testing.T) {
	a, b, c := hello(), packet(api.PkAsk, flow("m"), ext("n")), packet(api.PkBye)
	one, two, three := laid(a), laid(b), laid(c)
	turned := slices.Clone(two)
	turned[9] ^= 1
	unfit := laid(as(a, func(p *api.Packet) { p.To = 3 }))
	form := framed(append(laidBody(a), 0))
	for _, c := range []struct {
		name string
		b    []byte
		want []api.Packet
		n    int
		err  api.Errno
	}{
		{"nothing", nil, nil, 0, api.OK},
		{"an empty list", []byte{}, nil, 0, api.OK},
		{"one", one, []api.Packet{a}, 17, api.OK},
		{"three", slices.Concat(one, two, three), []api.Packet{a, b, c}, len(one) + len(two) + len(three), api.OK},
		{"the same three times", slices.Concat(two, two, two), []api.Packet{b, b, b}, 3 * len(two), api.OK},
		{"a byte behind", slices.Concat(one, three, []byte{0}), []api.Packet{a, c}, len(one) + len(three), api.ErrForm},
		{"a mark's beginning behind", slices.Concat(one, three, []byte{237}), []api.Packet{a, c}, len(one) + len(three), api.ErrShort},
		{"a byte ahead", slices.Concat([]byte{0}, one), nil, 0, api.ErrForm},
		{"a byte between", slices.Concat(one, []byte{0}, two), []api.Packet{a}, len(one), api.ErrForm},
		{"cut off", slices.Concat(one, two[:len(two)-1]), []api.Packet{a}, len(one), api.ErrShort},
		{"another sum", slices.Concat(one, turned), []api.Packet{a}, len(one), api.ErrSum},
		{"another sum, and more behind", slices.Concat(one, turned, three), []api.Packet{a}, len(one), api.ErrSum},
		{"another sum ahead", slices.Concat(turned, one), nil, 0, api.ErrSum},
		{"one that is not fit", slices.Concat(one, two, unfit), []api.Packet{a, b}, len(one) + len(two), api.ErrState},
		{"one that is not fit between", slices.Concat(one, unfit, two), []api.Packet{a}, len(one), api.ErrState},
		{"one that is not fit ahead", slices.Concat(unfit, one), nil, 0, api.ErrState},
		{"another form", slices.Concat(one, two, form), []api.Packet{a, b}, len(one) + len(two), api.ErrForm},
		{"another form between", slices.Concat(one, form, unfit, two), []api.Packet{a}, len(one), api.ErrForm},
		{"another form ahead", slices.Concat(form, one), nil, 0, api.ErrForm},
		{"an empty body behind", slices.Concat(one, framed(nil)), []api.Packet{a}, len(one), api.ErrForm},
	} {
		l, n, err := All(c.b)
		if !slices.EqualFunc(l, c.want, equal) || n != c.n || err != c.err {
			t.Errorf("%s: All(%x) = %#v, %d, %v, want %#v, %d, %v", c.name, c.b, l, n, err, c.want, c.n, c.err)
		}
		heldToModel(t, c.b)
	}
}

func TestP5_4MemoryOfItsOwn(t *testing.T) {
	p := packet(api.PkAnswer, dead("a"), ext("b"), flow("c"))
	b := slices.Concat(laid(p), laid(p), laid(p))
	l, _, err := All(b)
	for i := range b {
		b[i] = 0x55
	}
	if err != api.OK || len(l) != 3 {
		t.Fatalf("%d packets, %v", len(l), err)
	}
	all := l[1].Items[:cap(l[1].Items)]
	for i := range all {
		all[i] = api.Item{Rest: 5}
	}
	if !equal(l[0], p) || !equal(l[2], p) {
		t.Errorf("what All has read became %#v", l)
	}
}

// others are packets that are a packet with one field changed.
func others(p api.Packet) []api.Packet {
	var l []api.Packet
	another := func(change func(p *api.Packet)) { l = append(l, as(p, change)) }
	another(func(p *api.Packet) { p.Kind++ })
	another(func(p *api.Packet) { p.From++ })
	another(func(p *api.Packet) { p.To-- })
	another(func(p *api.Packet) { p.Boot += 1 << 32 })
	another(func(p *api.Packet) { p.Life-- })
	another(func(p *api.Packet) { p.Echo++ })
	another(func(p *api.Packet) { p.EchoLife ^= least })
	another(func(p *api.Packet) { p.Items = append(p.Items, api.Item{}) })
	for i := range p.Items {
		another(func(p *api.Packet) { p.Items = p.Items[:i] })
		for _, change := range []func(x *api.Item){
			func(x *api.Item) { x.Chan.Name += "_" }, func(x *api.Item) { x.Chan.Name = "Q" }, func(x *api.Item) { x.Chan.Epoch++ }, func(x *api.Item) { x.Chan.Maker++ }, func(x *api.Item) { x.Chan.Alive = !x.Chan.Alive }, func(x *api.Item) { x.Chan.Kind-- }, func(x *api.Item) { x.Chan.Scale++ },
			func(x *api.Item) { x.Reg.Ver++ }, func(x *api.Item) { x.Reg.Writer++ }, func(x *api.Item) { x.Reg.Flow = 1 - x.Reg.Flow }, func(x *api.Item) { x.HasRest = !x.HasRest }, func(x *api.Item) { x.Rest = 1 - x.Rest },
			func(x *api.Item) { x.Min.Has = !x.Min.Has }, func(x *api.Item) { x.Min.Value-- }, func(x *api.Item) { x.Min.Origin++ }, func(x *api.Item) { x.Min.Age++ },
			func(x *api.Item) { x.Max.Has = !x.Max.Has }, func(x *api.Item) { x.Max.Value-- }, func(x *api.Item) { x.Max.Origin++ }, func(x *api.Item) { x.Max.Age++ },
			func(x *api.Item) { x.Min, x.Max = api.Ext{Value: 1}, api.Ext{Value: 2} },
		} {
			another(func(p *api.Packet) { change(&p.Items[i]) })
		}
	}
	return l
}

func TestP5_5Same(t *testing.T) {
	strange := api.Packet{Kind: -9, From: least, To: greatest, Boot: -1, Items: []api.Item{{Rest: 7}, {}, {Min: api.Ext{Age: -1}}}}
	for _, p := range append(fewPackets(), api.Packet{}, strange) {
		q := deep(p)
		if !Same(p, p) || !Same(p, q) || !Same(q, p) {
			t.Errorf("%#v is not the same as itself", p)
		}
		q.Items = append(make([]api.Item, 0, 20), q.Items...)
		if !Same(p, q) || !Same(q, p) {
			t.Errorf("%#v is not the same as itself with spare room", p)
		}
		for _, o := range others(p) {
			kept := deep(o)
			if Same(p, o) || Same(o, p) {
				t.Errorf("%#v and %#v are the same", p, o)
			}
			if !equal(o, kept) || !equal(p, q) {
				t.Errorf("Same has changed what it was given: %#v, %#v", p, o)
			}
		}
	}
	none, empty := hello(), hello()
	empty.Items = []api.Item{}
	if !Same(none, empty) || !Same(empty, none) {
		t.Error("a list that is nil and one that is empty are not the same")
	}
	if a, b := packet(api.PkAsk, dead("a"), dead("b")), packet(api.PkAsk, dead("b"), dead("a")); Same(a, b) {
		t.Error("another order of Items is the same")
	}
}

func TestP5_6ThereAndBack(t *testing.T) {
	for _, p := range fitPackets() {
		if got, err := Decode(Encode(p)); err != api.OK || !equal(got, p) || !Same(got, p) {
			t.Errorf("Decode of Encode(%#v) = %#v, %v", p, got, err)
		}
	}
}

// heldToModel asks it of all bytes that the tests above hand in; here of bytes that are near to a packet's.
func TestP5_7OneForm(t *testing.T) {
	r := rand.New(rand.NewSource(3))
	taken := 0
	for range 60000 {
		body := laidBody(drawn(r))
		for range 1 + r.Intn(2) {
			at := r.Intn(len(body))
			switch r.Intn(4) {
			case 0:
				body = slices.Insert(body, at, byte(r.Intn(256)))
			case 1:
				body = slices.Insert(body, at+1, 0)
				body[at] |= 0x80
			default:
				body[at] = pick(r, byte(r.Intn(256)), byte(r.Intn(16)), body[at]^1)
			}
		}
		b := framed(body)
		heldToModel(t, b)
		if p, err := Decode(b); err == api.OK {
			taken++
			if !bytes.Equal(Encode(p), b) {
				t.Fatalf("Encode(%#v) = %x, not %x", p, Encode(p), b)
			}
		}
	}
	if taken < 1000 {
		t.Errorf("only %d were taken", taken)
	}
}

func TestP5_8OneBehindTheOther(t *testing.T) {
	r := rand.New(rand.NewSource(4))
	for range 40 {
		var l []api.Packet
		var b []byte
		ends := []int{0}
		for range r.Intn(6) {
			p := drawn(r)
			l = append(l, p)
			b = append(b, Encode(p)...)
			ends = append(ends, len(b))
		}
		for n := range len(b) + 1 {
			whole := 0
			for whole+1 < len(ends) && ends[whole+1] <= n {
				whole++
			}
			want := api.ErrShort
			if ends[whole] == n {
				want = api.OK
			}
			got, took, err := All(b[:n])
			if !slices.EqualFunc(got, l[:whole], equal) || took != ends[whole] || err != want {
				t.Fatalf("All of %d bytes of %x: %d packets, %d, %v, want %d, %d, %v", n, b, len(got), took, err, whole, ends[whole], want)
			}
		}
	}
}

func TestP5_8ManyPackets(t *testing.T) {
	r := rand.New(rand.NewSource(5))
	var l []api.Packet
	var b []byte
	for range 3000 {
		p := drawn(r)
		l = append(l, p)
		b = append(b, Encode(p)...)
	}
	if got, n, err := All(b); !slices.EqualFunc(got, l, equal) || n != len(b) || err != api.OK {
		t.Errorf("All of %d packets: %d, %d of %d bytes, %v", len(l), len(got), n, len(b), err)
	}
}

func TestP5_9UnlikePacketsHaveUnlikeBytes(t *testing.T) {
	l := fitPackets()
	for _, p := range fewPackets() {
		for _, o := range others(p) {
			if Fit(o) {
				l = append(l, o)
			}
		}
	}
	of := map[string]api.Packet{}
	for _, p := range l {
		b := string(Encode(p))
		if q, ok := of[b]; ok && !equal(p, q) {
			t.Errorf("%#v and %#v are both %x", p, q, b)
		}
		of[b] = p
	}
	if len(of) < 1000 {
		t.Errorf("only %d unlike ones", len(of))
	}
}
