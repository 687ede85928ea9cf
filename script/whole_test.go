package script_test

import (
	"math/rand"
	"slices"
	"strings"
	"testing"

	"hustings/api"
	"hustings/forwarder"
	"hustings/heard"
	"hustings/intake"
	"hustings/name"
	"hustings/script"
	"hustings/wire"
)

// These tests are of the promises of the whole. (P1 is held against a model in package forwarder, with P3, P5 and P7;
// P8 is in package wire.)

func named(s string) string {
	n, e := name.Parse(s)
	if e != api.OK {
		panic(s)
	}
	return n
}

// A world is a script that grows while a forwarder goes through it.
type world struct {
	t    *testing.T
	f    *forwarder.Forwarder
	x    script.Script
	told string
}

func newWorld(t *testing.T, c api.Config, seed uint64, first ...uint64) *world {
	f, e := forwarder.New(c, seed, first)
	if e != api.OK {
		t.Fatal(e)
	}
	return &world{t: t, f: f, x: script.Script{Config: c, Seed: seed, First: first}}
}

func (w *world) do(e forwarder.Event) []forwarder.Out {
	w.t.Helper()
	w.x.Events = append(w.x.Events, e)
	l, errno := w.f.Do(e)
	w.told += lines(len(w.x.Events), l, errno)
	return l
}

func (w *world) client(n int, s string) []forwarder.Out {
	return w.do(forwarder.Event{Kind: forwarder.Client, From: n, Data: s})
}

func (w *world) reply(u int, s string) []forwarder.Out {
	return w.do(forwarder.Event{Kind: forwarder.Reply, From: u, Data: s})
}

func (w *world) tick(n int64) []forwarder.Out {
	return w.do(forwarder.Event{Kind: forwarder.Tick, N: n})
}

// end holds the report of the text against what was done, twice: P10.
func (w *world) end() {
	w.t.Helper()
	s, e := script.Show(w.x)
	if e != api.OK {
		w.t.Fatal(e)
	}
	for range 2 {
		if got := script.Run(s); got != w.told+last(w.f) {
			w.t.Fatalf("%q, not %q", got, w.told+last(w.f))
		}
	}
}

func query(id uint16, n string) string {
	s, e := wire.Encode(api.Msg{Head: api.Head{ID: id, RD: true}, Questions: []api.Question{{Name: named(n), Type: api.A, Class: api.IN}}})
	if e != api.OK {
		panic(n)
	}
	return s
}

func upper(s string) string { return strings.ToUpper(s) }

// said is a reply with addresses to a query.
func said(query string, ttl uint32, last ...byte) string {
	m, e := wire.Decode(query)
	if e != api.OK {
		panic(query)
	}
	m.QR = true
	for _, b := range last {
		m.Answers = append(m.Answers, api.Record{Name: m.Questions[0].Name, Type: api.A, Class: api.IN, TTL: ttl, Data: "\x0a\x00\x00" + string([]byte{b})})
	}
	s, e := wire.Encode(m)
	if e != api.OK {
		panic(query)
	}
	return s
}

func decode(t *testing.T, o forwarder.Out) api.Msg {
	t.Helper()
	m, e := wire.Decode(o.Data)
	if e != api.OK {
		t.Fatalf("%q: %v", o.Data, e)
	}
	return m
}

// answers holds that one client was told addresses, with a TTL.
func answers(t *testing.T, l []forwarder.Out, client int, id uint16, ttl uint32, last ...byte) {
	t.Helper()
	if len(l) != 1 || l[0].Up || l[0].To != client {
		t.Fatal(l)
	}
	m := decode(t, l[0])
	if m.ID != id || m.Code != 0 || len(m.Answers) != len(last) {
		t.Fatal(m)
	}
	for i, x := range m.Answers {
		if x.TTL != ttl || x.Data != "\x0a\x00\x00"+string([]byte{last[i]}) {
			t.Fatal(m)
		}
	}
}

func fails(t *testing.T, l []forwarder.Out, client int, code uint8) {
	t.Helper()
	if len(l) != 1 || l[0].Up || l[0].To != client || decode(t, l[0]).Code != code {
		t.Fatal(l)
	}
}

func asks(t *testing.T, l []forwarder.Out, ups ...int) {
	t.Helper()
	var got []int
	for _, o := range l {
		if o.Up {
			got = append(got, o.To)
		}
	}
	if !slices.Equal(got, ups) || len(got) != len(l) {
		t.Fatal(l, ups)
	}
}

// The ten examples of the whole. With draws 0, 0 the order is 1 2 0.
func TestTenExamples(t *testing.T) {
	begin := func() (*world, []forwarder.Out) {
		w := newWorld(t, example(), 5, 0, 0)
		l := w.client(1, query(9, "www.ex."))
		asks(t, l, 1, 2)
		return w, l
	}
	third := func(w *world, l []forwarder.Out) forwarder.Out {
		asks(t, w.reply(l[0].To, said(l[0].Data, 9, 1)))
		more := w.reply(l[1].To, said(l[1].Data, 9, 6))
		asks(t, more, 0)
		return more[0]
	}
	w, l := begin() // 1
	asks(t, w.reply(1, said(l[0].Data, 9, 1)))
	answers(t, w.reply(2, said(l[1].Data, 7, 1)), 1, 9, 7, 1)
	answers(t, w.client(2, query(8, "www.ex.")), 2, 8, 7, 1)
	w.end()
	w, l = begin() // 2
	o := third(w, l)
	answers(t, w.reply(0, said(o.Data, 5, 1)), 1, 9, 5, 1)
	if b := w.f.Book(); b.Score(2) != 90 || b.Score(1) != 100 {
		t.Error(b.Score(2))
	}
	w.end()
	w, l = begin() // 3
	o = third(w, l)
	fails(t, w.reply(0, said(o.Data, 5, 9)), 1, api.ServFail)
	w.end()
	w, l = begin() // 4
	asks(t, w.reply(1, said(l[0].Data, 9, 1)))
	asks(t, w.tick(1))
	more := w.tick(1)
	asks(t, more, 0)
	answers(t, w.reply(0, said(more[0].Data, 9, 1)), 1, 9, 9, 1)
	w.end()
	c := example() // 5
	c.Tries, c.Wait, c.Deadline = 1, 19, 21
	w = newWorld(t, c, 5, 0, 0)
	l = w.client(1, query(9, "www.ex."))
	asks(t, w.reply(1, said(l[0].Data, 9, 1)))
	asks(t, w.tick(20), 0)
	fails(t, w.tick(1), 1, api.ServFail)
	w.end()
	w, l = begin() // 6
	asks(t, w.reply(1, said(l[0].Data, 9, 1, 2)))
	answers(t, w.reply(2, said(l[1].Data[:13]+upper(l[1].Data[13:16])+l[1].Data[16:], 4, 2, 1)), 1, 9, 4, 1, 2)
	w.end()
	w, l = begin() // 7
	asks(t, w.client(2, query(4, "WWW.ex.")))
	asks(t, w.reply(1, said(l[0].Data, 9, 1)))
	both := w.reply(2, said(l[1].Data, 9, 1))
	answers(t, both[:1], 1, 9, 9, 1)
	answers(t, both[1:], 2, 4, 9, 1)
	w.end()
	fails(t, w.client(3, strings.Repeat("\x00", 12)), 3, api.FormErr) // 8
	c = example()                                                     // 9
	c.Limit, c.Cache, c.Rest = 95, 0, 4
	w = newWorld(t, c, 5, 0, 0)
	o = third(w, w.client(1, query(9, "www.ex.")))
	answers(t, w.reply(0, said(o.Data, 9, 1)), 1, 9, 9, 1)
	if b := w.f.Book(); !b.Rests(2) || b.Trial(2) {
		t.Error("not suspended")
	}
	w.tick(4)
	if b := w.f.Book(); b.Rests(2) || !b.Trial(2) || b.Score(2) != 95 {
		t.Error("not on trial")
	}
	w.end()
	w, l = begin() // 10
	var forty []byte
	for i := range 40 {
		forty = append(forty, byte(i))
	}
	asks(t, w.reply(1, said(l[0].Data, 9, forty...)))
	cut := w.reply(2, said(l[1].Data, 9, forty...))
	if m := decode(t, cut[0]); !m.TC || len(m.Answers) != 0 || m.Code != 0 {
		t.Error(m)
	}
	w.end()
}

func randomConfig(r *rand.Rand) api.Config {
	c := api.Config{Ups: 1 + 2*r.Intn(4), Hedge: 1 + r.Intn(4), Wait: 2 + r.Intn(6), Tries: 1 + r.Intn(3), Rest: 1 + r.Intn(40), Limit: 60 + r.Intn(41), Cache: r.Intn(4), Flights: 1 + r.Intn(3), Waiters: 1 + r.Intn(3), TTL: r.Intn(30), Size: 512 + r.Intn(800)}
	c.Deadline = c.Ups/2*c.Hedge + c.Tries*c.Wait + r.Intn(8)
	return c
}

// lie is a reply of any kind to a query.
func lie(r *rand.Rand, query string) string {
	switch r.Intn(6) {
	case 0:
		return query
	case 1:
		return query[:2] + "\x83" + query[3:]
	case 2:
		return query[:2] + "\x81\x83" + query[4:]
	case 3:
		return query[:2]
	}
	return said(query, uint32(r.Intn(90)), byte(100+r.Intn(2)))
}

// A voice is what a truthful upstream said to a question.
type voice struct {
	q    string
	last byte
}

// P2: while no more than F upstreams lie, a client is told only what a truthful one said before.
// P6: what comes from the cache has no more time than is left. P9: what a client is told is a reply to what it asked.
func TestAgreement(t *testing.T) {
	r := rand.New(rand.NewSource(1))
	told, fromCache := 0, 0
	for range 400 {
		w := newWorld(t, randomConfig(r), r.Uint64())
		c := w.x.Config
		liars := r.Perm(c.Ups)[:c.Ups/2]
		voices := map[voice]int{}
		kept := map[string]int64{}
		var sent []forwarder.Out
		var ids []uint16
		take := func(l []forwarder.Out, cached bool) {
			for _, o := range l {
				m := decode(t, o)
				if o.Up {
					sent = append(sent, o)
					continue
				}
				if !slices.Contains(ids, m.ID) || len(m.Questions) != 1 || !m.QR || len(o.Data) > 512 {
					t.Fatal(m)
				}
				if m.Code == api.ServFail {
					continue
				}
				q := name.Fold(m.Questions[0].Name)
				if len(m.Answers) != 1 || voices[voice{q, m.Answers[0].Data[3]}] == 0 {
					t.Fatalf("%d lies, and %v is told", len(liars), m)
				}
				told++
				if until := kept[q]; cached {
					fromCache++
					if int64(m.Answers[0].TTL) > until-w.f.Now() || m.Answers[0].TTL == 0 {
						t.Fatal(m, until, w.f.Now())
					}
				} else {
					kept[q] = w.f.Now() + int64(m.Answers[0].TTL)
					if m.Answers[0].TTL > uint32(c.TTL) {
						t.Fatal(m)
					}
				}
			}
		}
		for range 100 {
			switch n := r.Intn(10); {
			case n < 2:
				id := uint16(r.Intn(1 << 16))
				ids = append(ids, id)
				before := w.f.Counts()[2]
				l := w.client(r.Intn(9), query(id, []string{"a.", "b.", "A.", "c."}[r.Intn(4)]))
				take(l, w.f.Counts()[2] > before)
			case n < 8 && len(sent) > 0:
				o := sent[max(0, len(sent)-1-r.Intn(6))]
				if slices.Contains(liars, o.To) {
					take(w.reply(o.To, lie(r, o.Data)), false)
					break
				}
				m := decode(t, o)
				// Several verdicts may be right.
				right := voice{m.Questions[0].Name, byte(1 + r.Intn(5)/4)}
				voices[right]++
				take(w.reply(o.To, said(o.Data, uint32(r.Intn(40)), right.last)), false)
			default:
				take(w.tick(int64(r.Intn(4))), false)
			}
			b := w.f.Book()
			if len(b.May()) < c.Ups/2+1 || len(w.f.Kept()) > c.Cache || len(w.f.Under()) > c.Flights { // P5, P7
				t.Fatal("bounds")
			}
		}
		w.end()
	}
	if told < 1000 || fromCache < 200 {
		t.Error(told, fromCache)
	}
}

// A promise is the reply that a truthful upstream is going to give.
type promised struct {
	at int64
	o  forwarder.Out
}

// P4: a question is answered as soon as F + 1 have said the same in time, whatever the others do.
func TestProgress(t *testing.T) {
	r := rand.New(rand.NewSource(2))
	for range 800 {
		c := randomConfig(r)
		c.Limit = 1 // nobody is suspended, so that all are in the list
		w := newWorld(t, c, r.Uint64())
		truthful := r.Perm(c.Ups)[:c.Ups/2+1]
		var later []promised
		var got []forwarder.Out
		tries := map[int]int{}
		which := map[int]int{}
		for _, u := range truthful {
			which[u] = 1 + r.Intn(c.Tries)
		}
		take := func(l []forwarder.Out) {
			for _, o := range l {
				switch {
				case !o.Up:
					got = append(got, o)
				case slices.Contains(truthful, o.To):
					if tries[o.To]++; tries[o.To] == which[o.To] {
						later = append(later, promised{w.f.Now() + 1 + r.Int63n(int64(c.Wait-1)), o})
					}
				case r.Intn(3) > 0:
					later = append(later, promised{w.f.Now() + r.Int63n(9), forwarder.Out{To: o.To, Data: lie(r, o.Data)}})
				}
			}
		}
		take(w.client(1, query(1, "a.")))
		waiting := 1
		for range c.Deadline {
			for i := 0; i < len(later); i++ {
				p := later[i]
				if p.at != w.f.Now() {
					continue
				}
				if p.o.Up {
					take(w.reply(p.o.To, said(p.o.Data, 9, 1)))
				} else {
					take(w.reply(p.o.To, p.o.Data))
				}
			}
			if len(got) == 0 && waiting < c.Waiters && r.Intn(3) == 0 {
				waiting++
				take(w.client(waiting, query(uint16(waiting), "A.")))
			}
			take(w.tick(1))
			if len(got) > 0 {
				break
			}
		}
		if len(got) != waiting {
			t.Fatal(len(got), waiting)
		}
		for i := range got {
			answers(t, got[i:i+1], i+1, uint16(i+1), min(9, uint32(c.TTL)), 1)
		}
		w.end()
	}
}

// P9: the reply to any datagram has its ID, and its question unless it is FormErr or NotImp, and fits.
func TestReplies(t *testing.T) {
	r := rand.New(rand.NewSource(3))
	replies := 0
	for range 4000 {
		w := newWorld(t, example(), 0)
		m := api.Msg{Head: api.Head{ID: uint16(r.Intn(1 << 16)), Op: uint8(r.Intn(8) / 7), RD: r.Intn(2) == 0}, Questions: []api.Question{{Name: named([]string{".", "ex."}[r.Intn(2)]), Type: []uint16{1, 255, 41}[r.Intn(3)], Class: uint16(1 + r.Intn(4)/3)}}}
		if r.Intn(2) == 0 {
			m.HasEdns, m.Edns = true, api.Edns{Size: uint16(r.Intn(1 << 16)), Version: uint8(r.Intn(4) / 3)}
		}
		s, _ := wire.Encode(m)
		b := []byte(s)
		if r.Intn(2) == 0 {
			b[r.Intn(len(b))] ^= byte(1 << r.Intn(8))
		}
		s = string(b)
		c := intake.Look(s)
		l := append(w.client(3, s), w.tick(20)...)
		l = slices.DeleteFunc(l, func(o forwarder.Out) bool { return o.Up })
		if (c.Kind == intake.Drop) != (len(l) == 0) || len(l) > 1 {
			t.Fatalf("%q: %v", s, l)
		}
		if len(l) == 0 {
			continue
		}
		replies++
		got := decode(t, l[0])
		if got.Code != api.FormErr && got.Code != api.NotImp && !slices.Equal(got.Questions, []api.Question{c.Question}) || got.ID != c.Head.ID || !got.QR || !got.RA || len(l[0].Data) > intake.Room(c, 1232) || l[0].To != 3 {
			t.Fatalf("%q: %v", s, got)
		}
	}
	if replies < 2000 {
		t.Error(replies)
	}
}

// A vote is what it is whatever the case of letters in the question: the reply in example 6 is one.
func TestUpper(t *testing.T) {
	s, _ := heard.Query(api.Question{Name: named("www.ex."), Type: api.A, Class: api.IN}, 1, 1232)
	other := s[:13] + upper(s[13:16]) + s[16:]
	if m, e := wire.Decode(other); e != api.OK || m.Questions[0].Name != named("WWW.ex.") {
		t.Error(m, e)
	}
}
