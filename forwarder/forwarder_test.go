package forwarder_test

import (
	"math/rand"
	"slices"
	"strings"
	"testing"

	"hustings/api"
	"hustings/forwarder"
	"hustings/heard"
	"hustings/name"
	"hustings/resolver"
	"hustings/wire"
)

func named(s string) string {
	n, e := name.Parse(s)
	if e != api.OK {
		panic(s)
	}
	return n
}

func example() api.Config {
	return api.Config{Ups: 3, Deadline: 20, Hedge: 2, Wait: 5, Tries: 2, Rest: 100, Limit: 50, Cache: 8, Flights: 4, Waiters: 4, TTL: 3600, Size: 1232}
}

func of(t *testing.T, c api.Config, seed uint64, first ...uint64) *forwarder.Forwarder {
	t.Helper()
	f, e := forwarder.New(c, seed, first)
	if e != api.OK {
		t.Fatal(e)
	}
	return f
}

func do(t *testing.T, f *forwarder.Forwarder, x forwarder.Event) []forwarder.Out {
	t.Helper()
	l, e := f.Do(x)
	if e != api.OK {
		t.Fatal(x, e)
	}
	return l
}

func client(n int, data string) forwarder.Event {
	return forwarder.Event{Kind: forwarder.Client, From: n, Data: data}
}

func reply(u int, data string) forwarder.Event {
	return forwarder.Event{Kind: forwarder.Reply, From: u, Data: data}
}

func tick(n int64) forwarder.Event { return forwarder.Event{Kind: forwarder.Tick, N: n} }

func query(id uint16, n string, kind uint16) string {
	s, e := wire.Encode(api.Msg{Head: api.Head{ID: id, RD: true}, Questions: []api.Question{{Name: named(n), Type: kind, Class: api.IN}}})
	if e != api.OK {
		panic(n)
	}
	return s
}

// said is a reply to a query, with one address.
func said(query string, last byte, ttl uint32) string {
	m, e := wire.Decode(query)
	if e != api.OK {
		panic(query)
	}
	m.QR = true
	m.Answers = []api.Record{{Name: m.Questions[0].Name, Type: api.A, Class: api.IN, TTL: ttl, Data: "\x0a\x00\x00" + string([]byte{last})}}
	s, _ := wire.Encode(m)
	return s
}

func ask(n string) api.Question { return api.Question{Name: named(n), Type: api.A, Class: api.IN} }

func toUp(u int, n string, id uint16) forwarder.Out {
	s, _ := heard.Query(ask(n), id, 1232)
	return forwarder.Out{Up: true, To: u, Data: s}
}

func outs(t *testing.T, got []forwarder.Out, want ...forwarder.Out) {
	t.Helper()
	if !slices.Equal(got, want) {
		t.Errorf("%v, not %v", got, want)
	}
}

const (
	asked    = "\x00\x07\x01\x00\x00\x01\x00\x00\x00\x00\x00\x00\x02\x65\x78\x00\x00\x01\x00\x01"
	answered = "\x81\x80\x00\x01\x00\x01\x00\x00\x00\x00\x02\x65\x78\x00\x00\x01\x00\x01\xC0\x0C\x00\x01\x00\x01\x00\x00\x00"
	failed   = "\x00\x07\x81\x82\x00\x01\x00\x00\x00\x00\x00\x00\x02\x65\x78\x00\x00\x01\x00\x01"
	address  = "\x00\x04\x0A\x00\x00\x01"
)

func began(t *testing.T) (*forwarder.Forwarder, []forwarder.Out) {
	t.Helper()
	f := of(t, example(), 0, 0, 0, 5, 6, 8, 9, 10, 11)
	l := do(t, f, client(7, asked))
	outs(t, l, toUp(1, "ex.", 5), toUp(2, "ex.", 6))
	return f, l
}

// P31.2: the chapter's example.
func TestExample(t *testing.T) {
	f, l := began(t)
	outs(t, do(t, f, reply(1, said(l[0].Data, 1, 9))))
	outs(t, do(t, f, reply(2, said(l[1].Data, 1, 5))), forwarder.Out{To: 7, Data: "\x00\x07" + answered + "\x05" + address})
	outs(t, do(t, f, tick(2)))
	outs(t, do(t, f, client(8, "\x00\x09"+asked[2:])), forwarder.Out{To: 8, Data: "\x00\x09" + answered + "\x03" + address})
	if c := f.Counts(); !slices.Equal(c, []int{2, 0, 1, 1, 0, 0, 0, 2, 0, 0, 0, 2}) || f.Now() != 2 || f.Draws() != 4 || !slices.Equal(f.Kept(), []api.Question{ask("ex.")}) || len(f.Under()) != 0 {
		t.Error(c, f.Now(), f.Draws(), f.Kept(), f.Under())
	}
	outs(t, do(t, f, tick(2)))
	outs(t, do(t, f, client(8, asked)), forwarder.Out{To: 8, Data: "\x00\x07" + answered + "\x01" + address})
	outs(t, do(t, f, tick(1)))
	if len(f.Kept()) != 0 {
		t.Error(f.Kept())
	}
	if l := do(t, f, client(8, asked)); len(l) != 2 || !l[0].Up {
		t.Error(l)
	}
}

// P31.2: two that contradict each other; and silence.
func TestContested(t *testing.T) {
	f, l := began(t)
	outs(t, do(t, f, reply(1, said(l[0].Data, 1, 9))))
	outs(t, do(t, f, reply(2, said(l[1].Data, 6, 9))), toUp(0, "ex.", 8))
	third := toUp(0, "ex.", 8).Data
	g := f.Copy()
	outs(t, do(t, f, reply(0, said(third, 1, 5))), forwarder.Out{To: 7, Data: "\x00\x07" + answered + "\x05" + address})
	b := f.Book()
	if b.Score(0) != 100 || b.Score(1) != 100 || b.Score(2) != 90 {
		t.Error(b.Score(0), b.Score(1), b.Score(2))
	}
	outs(t, do(t, g, reply(0, said(third, 9, 5))), forwarder.Out{To: 7, Data: failed})
	if b := g.Book(); b.Score(0) != 100 || b.Score(1) != 100 || b.Score(2) != 100 {
		t.Error(b.Score(0), b.Score(1), b.Score(2))
	}
	s, _ := began(t)
	outs(t, do(t, s, tick(1)))
	outs(t, do(t, s, tick(1)), toUp(0, "ex.", 8))
	outs(t, do(t, s, tick(3)), toUp(1, "ex.", 9), toUp(2, "ex.", 10))
	outs(t, do(t, s, tick(2)), toUp(0, "ex.", 11))
	if s.Waits(ask("EX.")) != 1 || s.Waits(ask("a.")) != 0 || !slices.Equal(s.Under(), []api.Question{ask("ex.")}) {
		t.Error(s.Waits(ask("ex.")), s.Under())
	}
	outs(t, do(t, s, tick(3)), forwarder.Out{To: 7, Data: failed})
	if b := s.Book(); b.Score(0) != 100 || b.Score(1) != 98 || b.Score(2) != 98 || s.Waits(ask("ex.")) != 0 {
		t.Error(b.Score(0), b.Score(1), b.Score(2))
	}
	if c := s.Counts(); !slices.Equal(c, []int{1, 0, 0, 0, 1, 0, 0, 6, 0, 0, 0, 0}) {
		t.Error(c)
	}
}

// P31.1: what is refused.
func TestRefused(t *testing.T) {
	bad := example()
	bad.Ups = 4
	tape := make([]uint64, api.MaxTape+1)
	if f, e := forwarder.New(bad, 0, tape); f != nil || e != api.ErrArg {
		t.Error(e)
	}
	if f, e := forwarder.New(example(), 0, tape); f != nil || e != api.ErrLong {
		t.Error(e)
	}
	f := of(t, example(), 0, tape[1:]...)
	if f.Now() != 0 || f.Draws() != 0 || len(f.Kept()) != 0 || len(f.Under()) != 0 || !slices.Equal(f.Counts(), make([]int, 12)) || f.Book().Len() != 3 {
		t.Error("the beginning")
	}
	do(t, f, tick(5))
	for i, x := range []forwarder.Event{
		{}, {Kind: 4}, {Kind: 255}, client(-1, asked), client(api.MaxClient+1, asked), client(1<<62, asked), reply(-1, ""), reply(3, ""), reply(1<<62, ""), tick(-1), tick(-1 << 63), tick(api.MaxTicks - 4), tick(1<<63 - 1),
	} {
		if l, e := f.Do(x); len(l) != 0 || e != api.ErrArg {
			t.Error(i, l, e)
		}
	}
	if !slices.Equal(f.Counts(), make([]int, 12)) || f.Now() != 5 {
		t.Error(f.Counts(), f.Now())
	}
	for _, x := range []forwarder.Event{
		{Kind: forwarder.Client, From: api.MaxClient, N: -1}, {Kind: forwarder.Client, N: 1 << 62}, {Kind: forwarder.Reply, From: 2, N: -1}, {Kind: forwarder.Tick, From: -1, Data: "x"}, tick(api.MaxTicks - 5), tick(0),
	} {
		do(t, f, x)
	}
	if _, e := f.Do(tick(1)); e != api.ErrArg || f.Now() != api.MaxTicks {
		t.Error(e)
	}
	if forwarder.Client != 1 || forwarder.Reply != 2 || forwarder.Tick != 3 {
		t.Error("the kinds")
	}
}

// P31.3: nil, and a forwarder that New did not make.
func TestNone(t *testing.T) {
	for _, f := range []*forwarder.Forwarder{nil, {}} {
		for _, x := range []forwarder.Event{{}, tick(0), client(1, asked)} {
			if l, e := f.Do(x); len(l) != 0 || e != api.ErrNil {
				t.Error(l, e)
			}
		}
		if len(f.Counts()) != 0 || f.Now() != 0 || f.Draws() != 0 || len(f.Kept()) != 0 || len(f.Under()) != 0 || f.Waits(ask("ex.")) != 0 || f.Book() != nil || f.Copy() != nil {
			t.Error("something")
		}
	}
}

// P31.2: codes, and the order in which a question is handled.
func TestHandling(t *testing.T) {
	c := example()
	c.Zones = []api.Zone{{Name: named("no."), Policy: api.Refuse}, {Name: named("yes.no."), Policy: api.Strict}, {Name: named("t."), Policy: api.Trusted, Trust: 4}}
	c.Flights, c.Waiters, c.Cache = 2, 2, 0
	f := of(t, c, 1)
	code := func(x forwarder.Event) int {
		t.Helper()
		l := do(t, f, x)
		if len(l) != 1 || l[0].Up || l[0].To != x.From {
			t.Fatal(l)
		}
		m, e := wire.Decode(l[0].Data)
		if e != api.OK {
			t.Fatal(e)
		}
		return int(m.Edns.Ext)*16 + int(m.Code)
	}
	if l := do(t, f, client(1, "short")); len(l) != 0 {
		t.Error(l)
	}
	for i, x := range []struct {
		s    string
		code int
	}{{strings.Repeat("\x00", 12), 1}, {"\x00\x00\x10" + strings.Repeat("\x00", 9), 4}, {query(1, "a.", 255), 5}, {query(1, "a.NO.", 1), 5}, {query(1, "no.", 1), 5}, {asked[:10] + "\x00\x01" + asked[12:] + "\x00\x00\x29\x04\xD0\x00\x01\x00\x00\x00\x00", 16}} {
		if got := code(client(i, x.s)); got != x.code {
			t.Error(i, got)
		}
	}
	if l := do(t, f, client(1, query(1, "a.t.", 1))); len(l) != 1 || !l[0].Up || l[0].To != 2 {
		t.Error(l)
	}
	if l := do(t, f, client(2, query(1, "a.yes.no.", 1))); len(l) != 2 {
		t.Error(l)
	}
	outs(t, do(t, f, client(3, query(9, "A.Yes.no.", 1))))
	if got := code(client(4, query(9, "A.Yes.no.", 1))); got != 2 {
		t.Error(got)
	}
	if got := code(client(4, query(9, "b.yes.no.", 1))); got != 2 {
		t.Error(got)
	}
	if got := f.Counts(); !slices.Equal(got, []int{12, 1, 0, 0, 2, 6, 1, 3, 0, 0, 0, 0}) || f.Waits(ask("a.yes.no.")) != 2 || !slices.Equal(f.Under(), []api.Question{ask("a.t."), ask("a.yes.no.")}) {
		t.Error(got)
	}
}

// P31.2: a list that is empty because who is trusted rests; its draws are used.
func TestNobody(t *testing.T) {
	c := example()
	c.Limit, c.Zones = 100, []api.Zone{{Name: named("t."), Policy: api.Trusted, Trust: 1}}
	f := of(t, c, 0)
	l := do(t, f, client(1, query(1, "t.", 1)))
	if len(l) != 1 || l[0].To != 0 || f.Draws() != 3 {
		t.Fatal(l)
	}
	outs(t, do(t, f, reply(0, l[0].Data)))
	if b := f.Book(); !b.Rests(0) || b.Score(0) != 90 || f.Counts()[9] != 1 {
		t.Error(b.Score(0))
	}
	l = do(t, f, client(1, query(1, "u.t.", 1)))
	if len(l) != 1 || l[0].Up || f.Draws() != 4 || len(f.Under()) != 1 {
		t.Error(l, f.Draws())
	}
	do(t, f, tick(99))
	if !f.Book().Rests(0) {
		t.Error("back too early")
	}
	do(t, f, tick(1))
	if f.Book().Rests(0) {
		t.Error("not back")
	}
}

// P31.2: stray datagrams, and IDs that are freed.
func TestStray(t *testing.T) {
	f, l := began(t)
	first, second := said(l[0].Data, 1, 9), said(l[1].Data, 1, 9)
	for _, x := range []forwarder.Event{reply(0, ""), reply(0, "\x00"), reply(1, "\x05"), reply(0, first), reply(2, first), reply(1, second), reply(0, "\xff\xff")} {
		outs(t, do(t, f, x))
	}
	if f.Counts()[8] != 7 {
		t.Error(f.Counts())
	}
	outs(t, do(t, f, reply(1, first[:2])))
	if f.Counts()[9] != 1 || f.Book().Score(1) != 90 {
		t.Error(f.Counts())
	}
	outs(t, do(t, f, reply(1, first)))
	outs(t, do(t, f, reply(1, first)))
	if f.Counts()[8] != 8 || f.Counts()[11] != 1 {
		t.Error(f.Counts())
	}
	if l := do(t, f, reply(2, second)); len(l) != 1 {
		t.Error(l)
	}
	outs(t, do(t, f, reply(2, second)))
	if f.Counts()[8] != 9 {
		t.Error(f.Counts())
	}
}

// P31.2: counters saturate.
func TestCounters(t *testing.T) {
	f := of(t, example(), 0)
	for range api.MaxCount + 5 {
		do(t, f, client(1, ""))
		do(t, f, reply(1, ""))
	}
	if c := f.Counts(); c[0] != api.MaxCount || c[1] != api.MaxCount || c[8] != api.MaxCount {
		t.Error(c)
	}
}

// check holds a forwarder against the model.
func check(t *testing.T, f *forwarder.Forwarder, p *plain) {
	t.Helper()
	var kept, under []api.Question
	for _, m := range p.cache {
		kept = append(kept, m.q)
	}
	for _, x := range p.under {
		under = append(under, x.q)
		if f.Waits(x.q) != len(x.waiters) || len(x.waiters) > p.c.Waiters {
			t.Fatal(x.q, f.Waits(x.q))
		}
	}
	if !slices.Equal(f.Counts(), p.counts[:]) || f.Now() != p.now || f.Draws() != p.used || !slices.Equal(f.Kept(), kept) || !slices.Equal(f.Under(), under) {
		t.Fatal(f.Counts(), p.counts, f.Now(), f.Draws(), p.used, f.Kept(), f.Under())
	}
	if len(kept) > p.c.Cache || len(under) > p.c.Flights {
		t.Fatal("too many")
	}
	b := f.Book()
	for u, x := range p.peers {
		a, d, s := b.Counts(u)
		if b.Score(u) != x.score || b.Rests(u) != x.rests || b.Trial(u) != x.trial || a != x.agree || d != x.dissent || s != x.silent {
			t.Fatal(u, b.Score(u), b.Rests(u), b.Trial(u), x)
		}
	}
	if len(b.May()) < p.c.Ups/2+1 {
		t.Fatal("too few are left")
	}
}

func randomConfig(r *rand.Rand) api.Config {
	c := api.Config{Ups: 1 + 2*r.Intn(4), Hedge: 1 + r.Intn(4), Wait: 1 + r.Intn(6), Tries: 1 + r.Intn(3), Rest: 1 + r.Intn(40), Limit: 1 + r.Intn(100), Cache: r.Intn(4), Flights: 1 + r.Intn(3), Waiters: 1 + r.Intn(3), TTL: r.Intn(30), Size: 512 + r.Intn(200)}
	c.Deadline = c.Ups/2*c.Hedge + c.Tries*c.Wait + r.Intn(8)
	if r.Intn(2) == 0 {
		c.Limit = 80 + r.Intn(21)
	}
	all := []api.Zone{{Name: named("u."), Policy: api.Union}, {Name: named("t."), Policy: api.Trusted, Trust: uint16(1 + r.Intn(1<<c.Ups-1))}, {Name: named("no."), Policy: api.Refuse}}
	c.Zones = all[:r.Intn(4)]
	return c
}

func randomQuery(r *rand.Rand) string {
	m := api.Msg{Head: api.Head{ID: uint16(r.Intn(1 << 16)), RD: r.Intn(2) == 0, CD: r.Intn(2) == 0}}
	n := []string{"a.ex.", "A.ex.", "b.ex.", "a.u.", "a.U.", "a.t.", "no.", "c."}[r.Intn(8)]
	m.Questions = []api.Question{{Name: named(n), Type: []uint16{api.A, api.A, api.A, api.AAAA, 255}[r.Intn(5)], Class: api.IN}}
	if r.Intn(3) == 0 {
		m.HasEdns, m.Edns = true, api.Edns{Size: uint16(r.Intn(1500)), Version: uint8(r.Intn(8) / 7)}
	}
	if r.Intn(20) == 0 {
		m.Op = 1
	}
	s, _ := wire.Encode(m)
	if r.Intn(15) == 0 {
		s = s[:r.Intn(len(s))]
	}
	return s
}

// randomReply is one to a query: for a verdict of few, or a pass, or bad.
func randomReply(r *rand.Rand, query string) string {
	m, _ := wire.Decode(query)
	m.QR = true
	q := m.Questions[0]
	switch r.Intn(9) {
	case 0:
		m.Code = 3
		m.Authority = []api.Record{{Name: "\x00", Type: api.SOA, Class: api.IN, TTL: uint32(r.Intn(20)), Data: "\x00\x00" + strings.Repeat("\x00", 19) + "\x09"}}
	case 1:
		m.TC = true
	case 2:
		m.Code = []uint8{2, 5}[r.Intn(2)]
	case 3:
		m.QR = r.Intn(2) == 0
		m.Questions = nil
	case 4:
		return query[:2+r.Intn(len(query)-2)]
	default:
		data := "\x0a\x00\x00" + string([]byte{byte(r.Intn(4) / 3)})
		if q.Type == api.AAAA {
			data = strings.Repeat(data, 4)
		}
		at := q.Name
		if r.Intn(3) == 0 {
			at = strings.ToUpper(at)
		}
		for range 1 + r.Intn(2)*r.Intn(2)*40 {
			m.Answers = append(m.Answers, api.Record{Name: at, Type: q.Type, Class: api.IN, TTL: uint32(r.Intn(40)), Data: data})
		}
	}
	s, _ := wire.Encode(m)
	return s
}

// A debt is an answer that is owed to a client: its ID, and until when.
type debt struct {
	client int
	id     string
	until  int64
}

// A run is a forwarder, its model, and what is owed.
type run struct {
	f     *forwarder.Forwarder
	p     *plain
	sent  []forwarder.Out
	debts []debt
}

func (x *run) next(r *rand.Rand) forwarder.Event {
	switch n := r.Intn(10); {
	case n < 3:
		return client(r.Intn(5), randomQuery(r))
	case n < 8 && len(x.sent) > 0:
		o := x.sent[max(0, len(x.sent)-1-r.Intn(8))]
		u := o.To
		if r.Intn(12) == 0 {
			u = r.Intn(x.p.c.Ups)
		}
		return reply(u, randomReply(r, o.Data))
	}
	return tick(int64(r.Intn(5) * r.Intn(3)))
}

// owe notes what is owed after an event, and what is paid.
func (x *run) owe(t *testing.T, e forwarder.Event, l []forwarder.Out) {
	t.Helper()
	if e.Kind == forwarder.Client && len(e.Data) >= 12 && e.Data[2]&0x80 == 0 {
		x.debts = append(x.debts, debt{e.From, e.Data[:2], x.f.Now() + int64(x.p.c.Deadline)})
	}
	for _, o := range l {
		m, e := wire.Decode(o.Data)
		if e != api.OK {
			t.Fatalf("%q is no message", o.Data)
		}
		if o.Up {
			x.sent = append(x.sent, o)
			continue
		}
		i := slices.IndexFunc(x.debts, func(d debt) bool { return d.client == o.To && d.id == o.Data[:2] })
		if i < 0 || !m.QR || len(o.Data) > x.p.c.Size {
			t.Fatalf("%q is not owed to %d", o.Data, o.To)
		}
		x.debts = slices.Delete(x.debts, i, i+1)
	}
	for _, d := range x.debts {
		if d.until <= x.f.Now() {
			t.Fatal("not answered", d)
		}
	}
}

// P31.2, P31.3, P31.5 to P31.9, P31.11, and P1, P3, P5, P7 of the whole: any events, held against the model.
func TestAny(t *testing.T) {
	r := rand.New(rand.NewSource(1))
	var all [12]int
	for range 600 {
		c := randomConfig(r)
		seed := r.Uint64()
		var tape []uint64
		for range r.Intn(20) {
			tape = append(tape, uint64(r.Intn(6)))
		}
		x := &run{f: of(t, c, seed, tape...), p: newPlain(c, seed, tape)}
		for range 120 {
			if r.Intn(10) == 0 {
				old := x.f
				x.f = x.f.Copy()
				old.Do(client(1, query(1, "other.", 1)))
				old.Do(tick(50))
			}
			e := x.next(r)
			inParts := x.f.Copy()
			l := do(t, x.f, e)
			if want := x.p.do(e); !slices.Equal(l, want) {
				t.Fatalf("%v: %v, not %v", e, l, want)
			}
			check(t, x.f, x.p)
			x.owe(t, e, l)
			if e.Kind == forwarder.Tick {
				var parts []forwarder.Out
				for left := e.N; left > 0; {
					n := int64(1 + r.Intn(int(left)))
					parts = append(parts, do(t, inParts, tick(n))...)
					left -= n
				}
				if !slices.Equal(parts, l) {
					t.Fatalf("in parts: %v, not %v", parts, l)
				}
				check(t, inParts, x.p)
			}
		}
		for i, n := range x.f.Counts() {
			all[i] += n
		}
	}
	for i, n := range all {
		if n < 100 {
			t.Error("rare", i, n)
		}
	}
}

// P31.8: very many ticks.
func TestManyTicks(t *testing.T) {
	f, l := began(t)
	do(t, f, reply(1, said(l[0].Data, 1, 9)))
	g := f.Copy()
	a := do(t, f, tick(1<<39))
	var b []forwarder.Out
	for range 100 {
		b = append(b, do(t, g, tick(1))...)
	}
	if !slices.Equal(a, b) || f.Now() != 1<<39 || len(a) == 0 || len(f.Under()) != 0 {
		t.Error(a, b)
	}
	do(t, f, tick(api.MaxTicks-1<<39))
	if l := do(t, f, client(1, asked)); len(l) != 2 || f.Now() != api.MaxTicks {
		t.Error(l)
	}
}

// P31.9, P31.10: what has no effect, and the numbers of clients.
func TestNoEffect(t *testing.T) {
	r := rand.New(rand.NewSource(2))
	for range 150 {
		c := randomConfig(r)
		seed := r.Uint64()
		f, g := of(t, c, seed), of(t, c, seed)
		x := &run{p: newPlain(c, seed, nil)}
		for range 60 {
			for _, e := range []forwarder.Event{client(3, ""), client(9, strings.Repeat("\xff", 12)), reply(0, "\x00"), tick(0), {Kind: 9}, client(-1, asked), reply(99, "abc")} {
				if r.Intn(3) == 0 {
					l, _ := g.Do(e)
					outs(t, l)
				}
			}
			e := x.next(r)
			l := do(t, f, e)
			x.sent = append(x.sent, slices.DeleteFunc(slices.Clone(l), func(o forwarder.Out) bool { return !o.Up })...)
			if e.Kind == forwarder.Client {
				e.From += 100
			}
			m := do(t, g, e)
			for i := range m {
				if !m[i].Up {
					m[i].To -= 100
				}
			}
			if !slices.Equal(l, m) || f.Draws() != g.Draws() || !slices.Equal(f.Kept(), g.Kept()) || !slices.Equal(f.Under(), g.Under()) {
				t.Fatalf("%v, not %v", m, l)
			}
		}
	}
}

func records(r *rand.Rand) []api.Record {
	places := []string{"a.ex.", "b.ex.", "c.ex.", "ex.", "d."}
	var l []api.Record
	for range r.Intn(6) {
		x := api.Record{Name: named(places[r.Intn(5)]), Type: api.A, Class: api.IN, TTL: uint32(r.Intn(20)), Data: "\x0a\x00\x00" + string([]byte{byte(r.Intn(3))})}
		switch r.Intn(3) {
		case 0:
			x.Type, x.Data = api.CNAME, named(places[r.Intn(5)])
		case 1:
			x.Type, x.Data = api.SOA, "\x00\x00"+strings.Repeat("\x00", 19)+"\x07"
		}
		l = append(l, x)
	}
	return l
}

// P31.4: if all upstreams reply as one resolver does, a client receives what it says.
func TestTruth(t *testing.T) {
	r := rand.New(rand.NewSource(3))
	told := 0
	for range 1500 {
		x, e := resolver.New(records(r))
		if e != api.OK {
			t.Fatal(e)
		}
		c := example()
		c.TTL, c.Cache = r.Intn(15), r.Intn(2)
		f := of(t, c, r.Uint64())
		s := query(9, []string{"a.ex.", "B.ex.", "ex.", "x.ex.", "d.", "e."}[r.Intn(6)], api.A)
		var got []forwarder.Out
		for sent := do(t, f, client(4, s)); len(sent) > 0; {
			o := sent[0]
			sent = sent[1:]
			if !o.Up {
				got = append(got, o)
				continue
			}
			sent = append(sent, do(t, f, reply(o.To, x.Answer(o.Data)))...)
		}
		m, _ := wire.Decode(s)
		q := m.Questions[0]
		up, _ := heard.Query(q, 1, 1232)
		truth := heard.Look(q, x.Answer(up))
		if len(got) != 1 || got[0].To != 4 {
			t.Fatal(got)
		}
		if truth.Kind != heard.Vote {
			if m, _ := wire.Decode(got[0].Data); m.Code != api.ServFail {
				t.Fatal(m)
			}
			continue
		}
		told++
		ttl := min(int64(truth.Time), int64(c.TTL))
		checkTold(t, q, got[0].Data, truth, ttl)
		k := int64(r.Intn(12))
		do(t, f, tick(k))
		again := do(t, f, client(5, s))
		if k >= ttl || c.Cache == 0 {
			if len(again) != 2 || !again[0].Up {
				t.Fatal(again)
			}
			continue
		}
		if len(again) != 1 || again[0].To != 5 {
			t.Fatal(again)
		}
		checkTold(t, q, again[0].Data, truth, ttl-k)
	}
	if told < 500 {
		t.Error(told)
	}
}

func checkTold(t *testing.T, q api.Question, s string, truth heard.Reply, ttl int64) {
	t.Helper()
	got := heard.Look(q, s)
	m, _ := wire.Decode(s)
	if got.Kind != heard.Vote || !sameVerdict(got.Verdict, truth.Verdict) {
		t.Fatal(got, truth)
	}
	for _, x := range slices.Concat(m.Answers, m.Authority) {
		if int64(x.TTL) != ttl {
			t.Fatal(x, ttl)
		}
	}
}

func sameVerdict(a, b api.Verdict) bool {
	set := func(x, y api.Set) bool {
		return x.Name == y.Name && x.Type == y.Type && x.Class == y.Class && slices.Equal(x.Data, y.Data)
	}
	return a.Code == b.Code && slices.EqualFunc(a.Sets, b.Sets, set) && slices.EqualFunc(a.Soa, b.Soa, set)
}

// R3: the configuration and the tape are the forwarder's own; so are its answers to questions.
func TestOwn(t *testing.T) {
	c := example()
	c.Zones = []api.Zone{{Name: named("no."), Policy: api.Refuse}}
	first := []uint64{0, 0, 5, 6}
	f, _ := forwarder.New(c, 0, first)
	c.Zones[0] = api.Zone{Name: "bad", Policy: 77}
	first[0], first[2] = 2, 9
	outs(t, do(t, f, client(7, asked)), toUp(1, "ex.", 5), toUp(2, "ex.", 6))
	f.Counts()[0] = 99
	f.Under()[0].Type = 99
	f.Book().Dissent(0, 0)
	if f.Counts()[0] != 1 || f.Under()[0].Type != api.A || f.Book().Score(0) != 100 {
		t.Error("shared")
	}
}
