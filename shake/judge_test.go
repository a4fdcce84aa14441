package shake

import (
	"testing"

	"eddy/api"
	"eddy/half"
	"eddy/wire"
)

func judges(t *testing.T, name string, l []api.Seen, boot int64, p api.Packet, want int) {
	t.Helper()
	if !wire.Fit(p) {
		t.Fatalf("%s: the case itself is wrong: %+v", name, p)
	}
	if got := Judge(l, boot, p); got != want || got != sayJudge(l, boot, p) {
		t.Errorf("%s: Judge(%+v, %d, %+v): %d, want %d", name, l, boot, p, got, want)
	}
}

func TestP14_4Examples(t *testing.T) {
	l := []api.Seen{seen(5, 3, 1, 2)}
	judges(t, "an Ask", l, 7, packet(api.PkAsk, 5, 3, 1, 7, 2), api.JdGood)
	judges(t, "an Ask to another life", l, 7, packet(api.PkAsk, 5, 3, 1, 7, 1), api.JdWelcome)
	judges(t, "an Ask of an earlier life", l, 7, packet(api.PkAsk, 5, 3, 0, 7, 2), api.JdStale)
	judges(t, "an Answer to another boot number", l, 7, packet(api.PkAnswer, 5, 3, 1, 6, 2), api.JdPass)
	judges(t, "a Hello of a later one", l, 7, packet(api.PkHello, 5, 4, 0, 0, 0), api.JdWelcome)
}

func TestJudgementsAreTheirNumbers(t *testing.T) {
	if api.JdStale != 1 || api.JdGood != 2 || api.JdWelcome != 3 || api.JdPass != 4 {
		t.Error("JdStale, JdGood, JdWelcome, JdPass are 1, 2, 3, 4")
	}
}

// others is what is judged of a packet that is neither stale nor good.
func others(kind int) int {
	if kind == api.PkHello || kind == api.PkAsk {
		return api.JdWelcome
	}
	return api.JdPass
}

// Of each kind, of each incarnation beside the one that was seen, with each Echo beside the node's own: the first
// judgement that would do is the answer.
func TestP14_4FirstThatWouldDo(t *testing.T) {
	l := []api.Seen{seen(2, 9, 9, 9), seen(5, 3, 4, 2), seen(9, 1, 0, 6)}
	for kind := api.PkHello; kind < api.NumPks; kind++ {
		for from, stale := range map[[2]int64]bool{
			{2, 3}: true, {2, 4}: true, {2, 5}: true, {2, most}: true, {1, 0}: true, {3, 0}: true, {3, 3}: true,
			{3, 4}: false, {3, 5}: false, {3, most}: false, {4, 0}: false, {4, 4}: false, {4, 9}: false, {most, 0}: false,
		} {
			for echo, mine := range map[[2]int64]bool{
				{7, 2}: true, {7, 1}: false, {7, 3}: false, {7, 0}: false, {7, most}: false, {6, 2}: false, {8, 2}: false, {6, 1}: false, {8, 9}: false, {2, 7}: false, {3, 4}: false, {7, 9}: false, {7, 6}: false,
			} {
				want := others(kind)
				if mine && kind != api.PkHello {
					want = api.JdGood
				}
				if stale {
					want = api.JdStale
				}
				judges(t, "one that was seen", l, 7, packet(kind, 5, from[0], from[1], echo[0], echo[1]), want)
			}
		}
	}
}

// Of a sender that was not seen nothing is stale, whether there is a life towards it or not.
func TestP14_4SenderThatWasNotSeen(t *testing.T) {
	for kind := api.PkHello; kind < api.NumPks; kind++ {
		good := api.JdGood
		if kind == api.PkHello {
			good = api.JdWelcome
		}
		for boot, life := range pairs {
			for _, l := range [][]api.Seen{nil, {}, {seen(4, most, most, 3), seen(6, most, most, 3)}} {
				judges(t, "no life towards it", l, 7, packet(kind, 5, boot, life, 7, 0), good)
				judges(t, "another life", l, 7, packet(kind, 5, boot, life, 7, 3), others(kind))
				judges(t, "another boot number", l, 7, packet(kind, 5, boot, life, 8, 0), others(kind))
			}
			l := []api.Seen{seen(4, most, most, 3), seen(5, 0, 0, 2)}
			judges(t, "a life towards it", l, 7, packet(kind, 5, boot, life, 7, 2), good)
			judges(t, "not that life", l, 7, packet(kind, 5, boot, life, 7, 0), others(kind))
			judges(t, "another one's life", l, 7, packet(kind, 5, boot, life, 7, 3), others(kind))
		}
	}
}

func TestP14_4AtTheGreatest(t *testing.T) {
	l := []api.Seen{seen(5, most, most, most)}
	judges(t, "all are the greatest", l, most, packet(api.PkAsk, 5, most, most, most, most), api.JdGood)
	judges(t, "one life less", l, most, packet(api.PkAsk, 5, most, most-1, most, most), api.JdStale)
	judges(t, "one boot less", l, most, packet(api.PkAsk, 5, most-1, most, most, most), api.JdStale)
	judges(t, "one Echo less", l, most, packet(api.PkAsk, 5, most, most, most-1, most), api.JdWelcome)
	judges(t, "one EchoLife less", l, most, packet(api.PkAnswer, 5, most, most, most, most-1), api.JdPass)
	judges(t, "equal in 32 bits", []api.Seen{seen(5, 3, 1, 2)}, 7, packet(api.PkAsk, 5, 3, 1, 7+1<<32, 2), api.JdWelcome)
	judges(t, "a life equal in 32 bits", []api.Seen{seen(5, 3, 1, 2)}, 7, packet(api.PkAsk, 5, 3, 1, 7, 2+1<<32), api.JdWelcome)
}

// What a packet bears, and whom else it names, plays no part.
func TestP14_4ItemsPlayNoPart(t *testing.T) {
	l := []api.Seen{seen(5, 3, 1, 2)}
	for _, kind := range []int{api.PkAsk, api.PkAnswer} {
		p := packet(kind, 5, 3, 1, 7, 2)
		p.Items = items()
		judges(t, "Items", l, 7, p, api.JdGood)
		p.EchoLife = 3
		judges(t, "Items, another life", l, 7, p, others(kind))
	}
}

func TestP14_4Everywhere(t *testing.T) {
	d := newDice(144)
	for range 60000 {
		id, boot := d.Intn(16), d.boot()
		l := d.list(id)
		p := d.packet(id, boot, l)
		judges(t, "drawn", l, boot, p, sayJudge(l, boot, p))
	}
}

func TestP14_5BeginsAndParts(t *testing.T) {
	ahead, behind := half.Begin(2, 9, 9), half.Begin(9, 1, 0)
	line := half.Write(half.Begin(5, 3, 4), "m", api.Reg{Ver: 1, Writer: 1, Flow: 7})
	line.Pending, line.Misses = true, 2
	type list = []api.Half
	for name, c := range map[string]struct {
		l             list
		begins, parts bool
	}{
		"nil":                            {nil, true, false},
		"none":                           {list{}, true, false},
		"others alone":                   {list{ahead, behind}, true, false},
		"others that name the same":      {list{half.Begin(4, 3, 4), half.Begin(6, 3, 4)}, true, false},
		"others that name a later one":   {list{half.Begin(4, 9, 9), half.Begin(6, 9, 9)}, true, false},
		"the same":                       {list{half.Begin(5, 3, 4)}, false, true},
		"an earlier life":                {list{half.Begin(5, 3, 3)}, true, false},
		"no life":                        {list{half.Begin(5, 3, 0)}, true, false},
		"an earlier boot":                {list{half.Begin(5, 2, 4)}, true, false},
		"an earlier boot, a later life":  {list{half.Begin(5, 2, 9)}, true, false},
		"an earlier boot, most lives":    {list{half.Begin(5, 1, most)}, true, false},
		"a later life":                   {list{half.Begin(5, 3, 5)}, false, false},
		"the latest life":                {list{half.Begin(5, 3, most)}, false, false},
		"a later boot":                   {list{half.Begin(5, 4, 4)}, false, false},
		"a later boot, an earlier life":  {list{half.Begin(5, 4, 0)}, false, false},
		"the latest boot":                {list{half.Begin(5, most, 0)}, false, false},
		"the same among others":          {list{ahead, half.Begin(5, 3, 4), behind}, false, true},
		"an earlier one among others":    {list{ahead, half.Begin(5, 3, 3), behind}, true, false},
		"a later one among others":       {list{ahead, half.Begin(5, 3, 5), behind}, false, false},
		"the same behind another one":    {list{ahead, half.Begin(5, 3, 4)}, false, true},
		"the same ahead of another one":  {list{half.Begin(5, 3, 4), behind}, false, true},
		"the same, with all it may have": {list{ahead, line, behind}, false, true},
		"as boot and life, changed":      {list{half.Begin(5, 4, 3)}, false, false},
	} {
		for kind := api.PkHello; kind < api.NumPks; kind++ {
			p := packet(kind, 5, 3, 4, 7, 2)
			if got := Begins(c.l, p); got != c.begins || got != sayBegins(c.l, p) {
				t.Errorf("%s, kind %d: Begins: %t", name, kind, got)
			}
			if got := Parts(c.l, p); got != c.parts || got != sayParts(c.l, p) {
				t.Errorf("%s, kind %d: Parts: %t", name, kind, got)
			}
		}
	}
}

// Echo and EchoLife are another's incarnation, and play no part: nor does To.
func TestP14_5OnlyTheSenderCounts(t *testing.T) {
	l := []api.Half{half.Begin(1, 7, 2), half.Begin(5, 3, 4)}
	for _, p := range []api.Packet{packet(api.PkBye, 5, 3, 4, 7, 2), packet(api.PkBye, 5, 3, 4, 3, 4), packet(api.PkBye, 5, 3, 4, 1, 0)} {
		if Begins(l, p) || !Parts(l, p) {
			t.Errorf("%+v: %t, %t", p, Begins(l, p), Parts(l, p))
		}
	}
	p := packet(api.PkBye, 6, 7, 2, 3, 4) // its To, and another one's incarnation, are held: its From is not
	if p.To != 2 || !Begins(l, p) || Parts(l, p) {
		t.Errorf("%+v: %t, %t", p, Begins(l, p), Parts(l, p))
	}
}

func TestP14_5Everywhere(t *testing.T) {
	d, counts := newDice(145), map[[2]bool]int{}
	for range 30000 {
		id := d.Intn(16)
		l := d.halves(id)
		p := d.packet(id, 7, nil)
		if i := d.Intn(16); i < len(l) {
			p.From, p.Boot, p.Life = l[i].Peer, l[i].Boot, d.near(l[i].Life)
		}
		if Begins(l, p) != sayBegins(l, p) || Parts(l, p) != sayParts(l, p) {
			t.Fatalf("%+v, %+v: %t, %t", l, p, Begins(l, p), Parts(l, p))
		}
		counts[[2]bool{Begins(l, p), Parts(l, p)}]++
	}
	if len(counts) != 3 || counts[[2]bool{true, false}] < 1000 || counts[[2]bool{false, true}] < 1000 || counts[[2]bool{false, false}] < 1000 {
		t.Errorf("%v", counts)
	}
}

func TestP14_6Hello(t *testing.T) {
	for name, c := range map[string]struct {
		l    []api.Seen
		peer int
		life int64
	}{
		"seen":                   {three(), 5, 4},
		"the first":              {three(), 2, 7},
		"not seen, with a life":  {three(), 12, 6},
		"not seen, ahead of all": {three(), 0, 0},
		"not seen, between":      {three(), 6, 0},
		"not seen, behind all":   {three(), 15, 0},
		"nobody was seen":        {nil, 5, 0},
		"the greatest life":      {[]api.Seen{seen(5, 1, 0, most)}, 5, most},
		"seen, no life":          {[]api.Seen{seen(5, 3, 9, 0)}, 5, 0},
	} {
		for _, boot := range []int64{1, 7, most} {
			want := api.Packet{Kind: 1, From: 1, To: c.peer, Boot: boot, Life: c.life}
			if got := Hello(1, boot, c.l, c.peer); !same(got, want) || !wire.Fit(got) {
				t.Errorf("%s: %+v, want %+v", name, got, want)
			}
		}
	}
}

func TestP14_6Welcome(t *testing.T) {
	for name, c := range map[string]struct {
		l    []api.Seen
		from int
		life int64
	}{
		"seen":                   {three(), 5, 4},
		"the first":              {three(), 2, 7},
		"not seen, with a life":  {three(), 12, 6},
		"not seen, ahead of all": {three(), 0, 0},
		"not seen, between":      {three(), 6, 0},
		"not seen, behind all":   {three(), 15, 0},
		"nobody was seen":        {nil, 5, 0},
		"the greatest life":      {[]api.Seen{seen(5, 1, 0, most)}, 5, most},
		"seen, no life":          {[]api.Seen{seen(5, 3, 9, 0)}, 5, 0},
	} {
		for boot, life := range pairs {
			for kind := api.PkHello; kind < api.NumPks; kind++ {
				p := packet(kind, c.from, boot, life, 33, 44)
				if kind == api.PkAsk || kind == api.PkAnswer {
					p.Items = items()
				}
				want := api.Packet{Kind: 2, From: 1, To: c.from, Boot: 77, Life: c.life, Echo: boot, EchoLife: life}
				if got := Welcome(1, 77, c.l, p); !same(got, want) || !wire.Fit(got) {
					t.Errorf("%s: %+v, want %+v", name, got, want)
				}
			}
		}
	}
}

// Whoever they are from and to, the packets are fit.
func TestP14_6Everywhere(t *testing.T) {
	d := newDice(146)
	for range 20000 {
		id, boot := d.Intn(16), d.boot()
		l := d.list(id)
		p := d.packet(id, boot, l)
		h, w, life := Hello(id, boot, l, p.From), Welcome(id, boot, l, p), sayGet(l, p.From).Mine
		if !wire.Fit(h) || !same(h, api.Packet{Kind: api.PkHello, From: id, To: p.From, Boot: boot, Life: life}) {
			t.Fatalf("Hello(%d, %d, %+v, %d): %+v", id, boot, l, p.From, h)
		}
		if !wire.Fit(w) || !same(w, api.Packet{Kind: api.PkWelcome, From: id, To: p.From, Boot: boot, Life: life, Echo: p.Boot, EchoLife: p.Life}) {
			t.Fatalf("Welcome(%d, %d, %+v, %+v): %+v", id, boot, l, p, w)
		}
	}
}
