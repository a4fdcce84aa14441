package world

import (
	"bytes"
	"encoding/binary"
	"reflect"
	"slices"
	"strings"
	"testing"

	"eddy/api"
	"eddy/node"
	"eddy/seal"
	"eddy/wire"
)

const (
	lastBoot = int64(1) << 40
	lastMail = int64(1) << 62 // the last number of a packet
	lastLost = int64(1) << 62
	fullBag  = 65536
	oneFlush = 65536
)

// letter is a packet on its way, which is told as bytes by the world alone.
type letter struct {
	number int64
	p      api.Packet
}

// said is a world as the document's words say it: the nodes that are up by their numbers, packets as they were sent.
type said struct {
	n       int
	awake   map[int]api.Node
	disks   [][]byte
	next    int64
	letters []letter
	severed map[api.Link]bool
	lost    int64
	told    []api.Told
}

func say(w api.World) *said {
	s := &said{n: len(w.Nodes), awake: map[int]api.Node{}, next: w.Mail.Next, severed: map[api.Link]bool{}, lost: w.Lost}
	for id, up := range w.Up {
		if up {
			s.awake[id] = w.Nodes[id]
		}
		s.disks = append(s.disks, bytes.Clone(w.Disks[id]))
	}
	for _, d := range w.Mail.List {
		p, err := wire.Decode([]byte(d.Body))
		if err != api.OK || p.From != d.From || p.To != d.To {
			panic("no packet is in flight there")
		}
		s.letters = append(s.letters, letter{d.Number, p})
	}
	for _, l := range w.Mail.Severed {
		s.severed[l] = true
	}
	return s
}

// world is the world that is told so.
func (s *said) world() api.World {
	w := api.World{Mail: api.Mail{Next: s.next}, Disks: slices.Clone(s.disks), Lost: s.lost}
	for id := range s.n {
		st, up := s.awake[id]
		st.Id = id
		w.Nodes, w.Up = append(w.Nodes, st), append(w.Up, up)
	}
	for _, l := range s.letters {
		w.Mail.List = append(w.Mail.List, api.Datagram{Number: l.number, From: l.p.From, To: l.p.To, Body: string(wire.Encode(l.p))})
	}
	for a := range s.n {
		for b := range s.n {
			if s.severed[api.Link{A: a, B: b}] {
				w.Mail.Severed = append(w.Mail.Severed, api.Link{A: a, B: b})
			}
		}
	}
	return w
}

func (s *said) lose(n int) {
	for range n {
		if s.lost < lastLost {
			s.lost++
		}
	}
}

func ordered(a, b int) api.Link {
	if a > b {
		a, b = b, a
	}
	return api.Link{A: a, B: b}
}

func (s *said) put(p api.Packet) {
	if s.severed[ordered(p.From, p.To)] || len(s.letters) == fullBag || s.next == lastMail {
		s.lose(1)
		return
	}
	s.next++
	s.letters = append(s.letters, letter{s.next, p})
}

// came is what has come of a node.
func (s *said) came(id int, st api.Node, packets []api.Packet, events []api.Event, err api.Errno) api.Errno {
	if err != api.OK {
		return err
	}
	s.awake[id] = st
	for _, e := range events {
		s.told = append(s.told, api.Told{Node: id, Event: e})
	}
	for _, p := range packets {
		s.put(p)
	}
	return api.OK
}

func (s *said) tick(id int) {
	st, packets, events := node.Tick(s.awake[id])
	s.came(id, st, packets, events, api.OK)
}

// takeOut takes out a letter, by its place.
func (s *said) takeOut(at int) api.Packet {
	p := s.letters[at].p
	if at == 0 {
		s.letters = s.letters[1:] // which is all that a flush does
	} else {
		s.letters = slices.Concat(s.letters[:at], s.letters[at+1:])
	}
	return p
}

func (s *said) deliver(at int) {
	p := s.takeOut(at)
	if st, up := s.awake[p.To]; up {
		st, packets, events := node.Receive(st, p)
		s.came(p.To, st, packets, events, api.OK)
	}
}

func (s *said) flush() {
	for n := 0; n < oneFlush && len(s.letters) > 0; n++ {
		s.deliver(0)
	}
}

func (s *said) sever(a, b int) {
	s.severed[ordered(a, b)] = true
	was := len(s.letters)
	s.letters = slices.DeleteFunc(slices.Clone(s.letters), func(l letter) bool { return ordered(l.p.From, l.p.To) == ordered(a, b) })
	s.lose(was - len(s.letters))
}

// restart is a start of a node that is down; where the power goes there is an error.
func (s *said) restart(id int, cut int64) api.Errno {
	image, number, err := sayNext(s.disks[id], cut)
	s.disks[id] = image
	if err == api.OK {
		s.awake[id] = node.New(id, number)
	}
	return err
}

// letters of the fields that a kind uses: A, B, T (Name), K, N, and n (N from 0 on).
func uses(kind int) (string, bool) {
	s, is := map[int]string{
		api.StLink: "AB", api.StUnlink: "AB", api.StCreate: "ATKN", api.StDelete: "AT", api.StSet: "ATN", api.StTick: "A",
		api.StDeliver: "n", api.StDrop: "n", api.StDouble: "n", api.StCrash: "A", api.StRestart: "AN", api.StFlush: "", api.StRound: "",
		api.StSever: "AB", api.StMend: "AB",
	}[kind]
	return s, is
}

// sayStep says what is a step.
func sayStep(x api.Step) bool {
	s, is := uses(x.Kind)
	rules := []bool{
		is,
		x.A == 0 || strings.Contains(s, "A"),
		x.B == 0 || strings.Contains(s, "B"),
		x.Name == "" || strings.Contains(s, "T"),
		x.K == 0 || strings.Contains(s, "K"),
		x.N == 0 || strings.Contains(s, "N") || strings.Contains(s, "n") && x.N > 0,
	}
	return !slices.Contains(rules, false)
}

// ahead says which error stands ahead of a step.
func (s *said) ahead(x api.Step) api.Errno {
	fields, _ := uses(x.Kind)
	none := func(id int) bool { return id < 0 || id >= s.n }
	_, up := s.awake[x.A]
	switch {
	case !sayStep(x):
		return api.ErrStep
	case strings.Contains(fields, "A") && none(x.A), strings.Contains(fields, "B") && none(x.B):
		return api.ErrNode
	case x.Kind == api.StSever || x.Kind == api.StMend:
		if x.A == x.B {
			return api.ErrSelf
		}
	case x.Kind == api.StRestart:
		if up {
			return api.ErrUp
		}
	case strings.Contains(fields, "A") && !up:
		return api.ErrDown
	}
	return api.OK
}

// do does a step.
func (s *said) do(x api.Step) api.Outcome {
	s.told = nil
	err := s.ahead(x)
	if err == api.OK {
		err = s.deed(x)
	}
	if err != api.OK {
		return api.Outcome{Err: err}
	}
	return api.Outcome{Events: s.told}
}

func (s *said) deed(x api.Step) api.Errno {
	place := func() int { return int(x.N % int64(len(s.letters))) }
	flying := len(s.letters) > 0
	switch x.Kind {
	case api.StDeliver:
		if flying {
			s.deliver(place())
		}
	case api.StDrop:
		if flying {
			s.takeOut(place())
		}
	case api.StDouble:
		if flying {
			s.put(s.letters[place()].p)
		}
	case api.StCrash:
		delete(s.awake, x.A)
	case api.StRestart:
		return s.restart(x.A, x.N)
	case api.StFlush:
		s.flush()
	case api.StRound:
		for id := range s.n {
			if _, up := s.awake[id]; up {
				s.tick(id)
			}
		}
		s.flush()
	case api.StSever:
		s.sever(x.A, x.B)
	case api.StMend:
		delete(s.severed, ordered(x.A, x.B))
	default:
		return s.call(x)
	}
	return api.OK
}

// call calls a node.
func (s *said) call(x api.Step) api.Errno {
	st := s.awake[x.A]
	var packets []api.Packet
	var events []api.Event
	err := api.OK
	switch x.Kind {
	case api.StLink:
		st, packets, events, err = node.Link(st, x.B)
	case api.StUnlink:
		st, packets, events, err = node.Unlink(st, x.B)
	case api.StCreate:
		st, packets, events, err = node.Create(st, x.Name, x.K, x.N)
	case api.StDelete:
		st, packets, events, err = node.Delete(st, x.Name)
	case api.StSet:
		st, err = node.Set(st, x.Name, x.N)
	case api.StTick:
		st, packets, events = node.Tick(st)
	}
	return s.came(x.A, st, packets, events, err)
}

// bootRecord is the two sectors of a number.
func bootRecord(n int64) []byte {
	b := make([]byte, 32)
	binary.LittleEndian.PutUint64(b, uint64(n))
	copy(b[8:], "EDDYBOOT")
	binary.LittleEndian.PutUint32(b[16:], seal.Sum(b[:16]))
	binary.LittleEndian.PutUint64(b[20:], uint64(n))
	return b
}

// sayStands is the number that stands in a slot.
func sayStands(slot []byte) int64 {
	n := int64(binary.LittleEndian.Uint64(slot))
	if n < 1 || n > lastBoot || !bytes.Equal(slot, bootRecord(n)) {
		return 0
	}
	return n
}

// sayNext writes the next number, as far as the power lasts: what is on the disk then, and the number.
func sayNext(image []byte, cut int64) ([]byte, int64, api.Errno) {
	image = bytes.Clone(image)
	first, second := sayStands(image[:32]), sayStands(image[32:])
	n, slot := max(first, second)+1, image[32:]
	if first <= second {
		slot = image[:32]
	}
	r := bootRecord(n)
	switch {
	case n > lastBoot:
		return image, 0, api.ErrLast
	case cut == 0:
		return image, 0, api.ErrDead
	case cut == 1:
		copy(slot, r[:16])
		return image, 0, api.ErrDead
	}
	copy(slot, r)
	return image, n, api.OK
}

// sayFit says what is a fit world: each of the chapter's rules by itself.
func sayFit(w api.World) bool {
	n := len(w.Nodes)
	if n < 1 || n > 16 || len(w.Up) != n || len(w.Disks) != n {
		return false
	}
	is := func(id int) bool { return id >= 0 && id < n }
	m := w.Mail
	rules := []bool{w.Lost >= 0, w.Lost <= lastLost, m.Next >= 0, m.Next <= lastMail, len(m.List) <= fullBag}
	for id, st := range w.Nodes {
		rules = append(rules, len(w.Disks[id]) == 64)
		if w.Up[id] {
			rules = append(rules, node.Fit(st), st.Id == id, !slices.ContainsFunc(st.Want, func(v int) bool { return !is(v) }))
		} else {
			rules = append(rules, alike(st, api.Node{Id: id}))
		}
	}
	last := int64(0)
	for _, d := range m.List {
		p, err := wire.Decode([]byte(d.Body))
		rules = append(rules, d.Number > last, d.Number <= m.Next, err == api.OK, p.From == d.From, p.To == d.To, is(d.From), is(d.To))
		last = d.Number
	}
	for i, l := range m.Severed {
		rules = append(rules, l.A < l.B, is(l.A), is(l.B))
		if i > 0 {
			k := m.Severed[i-1]
			rules = append(rules, k.A < l.A || k.A == l.A && k.B < l.B)
		}
	}
	return !slices.Contains(rules, false)
}

// alike tells whether two values are the same, field by field; a list that is nil and one that is empty are the same.
func alike(a, b any) bool { return equal(reflect.ValueOf(a), reflect.ValueOf(b)) }

func equal(a, b reflect.Value) bool {
	switch a.Kind() {
	case reflect.Slice:
		if a.Len() != b.Len() {
			return false
		}
		for i := range a.Len() {
			if !equal(a.Index(i), b.Index(i)) {
				return false
			}
		}
		return true
	case reflect.Struct:
		for i := range a.NumField() {
			if !equal(a.Field(i), b.Field(i)) {
				return false
			}
		}
		return true
	}
	return a.Equal(b)
}

// check does a step, and holds what comes of it against the words, and against what holds of all steps.
func check(t *testing.T, w api.World, x api.Step) (api.World, api.Outcome) {
	t.Helper()
	got, o := Do(w, x)
	s := say(w)
	was := s.world()
	if want := s.do(x); !alike(o, want) {
		t.Fatalf("%+v: %+v\nwant %+v\nin %+v", x, o, want, w)
	}
	if want := s.world(); !alike(got, want) {
		t.Fatalf("%+v: %+v\nwant %+v\nin %+v", x, got, want, w)
	}
	if !alike(w, was) {
		t.Fatalf("%+v: what was handed in is %+v, was %+v", x, w, was)
	}
	if !sayFit(got) || !Fit(got) {
		t.Fatalf("%+v: it comes to an unfit world: %+v", x, got)
	}
	if o.Err == api.OK {
		return got, o
	}
	if x.Kind == api.StRestart && o.Err == api.ErrDead {
		was.Disks[x.A] = got.Disks[x.A]
	}
	if len(o.Events) > 0 || !alike(got, was) {
		t.Fatalf("%+v: beside an error %+v, %+v; was %+v", x, o, got, was)
	}
	return got, o
}
