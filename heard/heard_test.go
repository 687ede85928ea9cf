package heard_test

import (
	"math/rand"
	"slices"
	"strings"
	"testing"

	"hustings/api"
	"hustings/heard"
	"hustings/name"
	"hustings/verdict"
	"hustings/wire"
)

func named(s string) string {
	n, e := name.Parse(s)
	if e != api.OK {
		panic(s)
	}
	return n
}

var ex = api.Question{Name: named("ex."), Type: api.A, Class: api.IN}

const query = "\x00\x07\x01\x00\x00\x01\x00\x00\x00\x00\x00\x01\x02\x65\x78\x00\x00\x01\x00\x01\x00\x00\x29\x04\xD0\x00\x00\x00\x00\x00\x00"

func flags(s, two string) string { return s[:2] + two + s[4:] }

func encode(t *testing.T, m api.Msg) string {
	t.Helper()
	s, e := wire.Encode(m)
	if e != api.OK {
		t.Fatal(e, m)
	}
	return s
}

func same(a, b heard.Reply) bool {
	return a.Kind == b.Kind && a.Time == b.Time && verdict.Same(a.Verdict, b.Verdict)
}

// P24.1, P24.2: the chapter's examples.
func TestExamples(t *testing.T) {
	s, e := heard.Query(ex, 7, 1232)
	if s != query || e != api.OK {
		t.Errorf("%q %v", s, e)
	}
	if s, e = heard.Query(api.Question{Name: named("EX."), Type: api.A, Class: api.IN}, 7, 1232); s != query || e != api.OK {
		t.Errorf("%q %v", s, e)
	}
	for two, kind := range map[string]uint8{"\x81\x00": heard.Vote, "\x83\x00": heard.Pass, "\x81\x02": heard.Pass, "\x01\x00": heard.Bad} {
		if r := heard.Look(ex, flags(query, two)); !same(r, heard.Reply{Kind: kind}) {
			t.Errorf("%q: %v", two, r)
		}
	}
	if heard.Bad != 1 || heard.Pass != 2 || heard.Vote != 3 {
		t.Error("the kinds")
	}
}

// P24.1: what is refused, and sizes.
func TestQuery(t *testing.T) {
	for _, q := range []api.Question{{Type: 1, Class: 1}, {Name: "ex", Type: 1, Class: 1}, {Name: "\xC0\x00"}} {
		if s, e := heard.Query(q, 1, 512); s != "" || e != api.ErrArg {
			t.Errorf("%q %v", s, e)
		}
	}
	for _, size := range []int{-1, 65536, -1 << 63, 1<<63 - 1} {
		if s, e := heard.Query(ex, 1, size); s != "" || e != api.ErrArg {
			t.Errorf("%q %v", s, e)
		}
	}
	for _, size := range []int{0, 1, 4096, 65535} {
		s, e := heard.Query(api.Question{Name: named("A.b."), Type: 257, Class: 77}, 0xfffe, size)
		want := api.Msg{Head: api.Head{ID: 0xfffe, RD: true}, Questions: []api.Question{{Name: named("a.b."), Type: 257, Class: 77}}, HasEdns: true, Edns: api.Edns{Size: uint16(size)}}
		m, e2 := wire.Decode(s)
		if e != api.OK || e2 != api.OK || !wire.Same(m, want) {
			t.Error(m, e, e2)
		}
	}
}

func addr(n string, last byte, ttl uint32) api.Record {
	return api.Record{Name: named(n), Type: api.A, Class: api.IN, TTL: ttl, Data: "\x0a\x00\x00" + string([]byte{last})}
}

func reply(change func(m *api.Msg)) api.Msg {
	m := api.Msg{Head: api.Head{ID: 7, QR: true, RD: true, RA: true}, Questions: []api.Question{ex}, Answers: []api.Record{addr("ex.", 2, 9), addr("EX.", 1, 5)}, HasEdns: true, Edns: api.Edns{Size: 1232}}
	change(&m)
	return m
}

// P24.2, P24.4: each reason, and their order.
func TestLook(t *testing.T) {
	cname := api.Record{Name: named("ex."), Type: api.CNAME, Class: 1, Data: named("ex.")}
	good := api.Verdict{Sets: []api.Set{{Name: named("ex."), Type: api.A, Class: api.IN, Data: []string{"\x0a\x00\x00\x01", "\x0a\x00\x00\x02"}}}}
	for i, x := range []struct {
		m    api.Msg
		kind uint8
	}{
		{reply(func(m *api.Msg) {}), heard.Vote},
		{reply(func(m *api.Msg) { m.QR = false }), heard.Bad},
		{reply(func(m *api.Msg) { m.QR, m.TC = false, true }), heard.Bad},
		{reply(func(m *api.Msg) { m.Op = 1 }), heard.Bad},
		{reply(func(m *api.Msg) { m.Op, m.TC = 2, true }), heard.Bad},
		{reply(func(m *api.Msg) { m.Questions = nil }), heard.Bad},
		{reply(func(m *api.Msg) { m.Questions, m.Code = nil, 2 }), heard.Bad},
		{reply(func(m *api.Msg) { m.Questions = []api.Question{ex, ex} }), heard.Bad},
		{reply(func(m *api.Msg) { m.Questions[0].Name = named("a.ex.") }), heard.Bad},
		{reply(func(m *api.Msg) { m.Questions = []api.Question{{Name: ex.Name, Type: 28, Class: 1}} }), heard.Bad},
		{reply(func(m *api.Msg) { m.Questions, m.TC = []api.Question{{Name: ex.Name, Type: 1, Class: 3}}, true }), heard.Bad},
		{reply(func(m *api.Msg) { m.TC = true }), heard.Pass},
		{reply(func(m *api.Msg) { m.TC, m.Answers = true, []api.Record{cname} }), heard.Pass},
		{reply(func(m *api.Msg) { m.Code = 1 }), heard.Pass},
		{reply(func(m *api.Msg) { m.Code, m.Answers = 2, []api.Record{cname} }), heard.Pass},
		{reply(func(m *api.Msg) { m.Code = 5 }), heard.Pass},
		{reply(func(m *api.Msg) { m.Code = 15 }), heard.Pass},
		{reply(func(m *api.Msg) { m.Edns.Ext = 1 }), heard.Pass},
		{reply(func(m *api.Msg) { m.Code, m.Edns.Ext = 3, 255 }), heard.Pass},
		{reply(func(m *api.Msg) { m.Code = 3 }), heard.Bad},
		{reply(func(m *api.Msg) { m.Answers = []api.Record{cname} }), heard.Bad},
		{reply(func(m *api.Msg) { m.HasEdns, m.Edns = false, api.Edns{} }), heard.Vote},
		{reply(func(m *api.Msg) { m.Questions = []api.Question{{Name: named("eX."), Type: 1, Class: 1}} }), heard.Vote},
	} {
		want := heard.Reply{Kind: x.kind}
		if x.kind == heard.Vote {
			want.Verdict, want.Time = good, 5
		}
		if r := heard.Look(ex, encode(t, x.m)); !same(r, want) {
			t.Errorf("%d: %v, not %v", i, r, want)
		}
	}
	nx := reply(func(m *api.Msg) { m.Code, m.Answers = 3, nil })
	if r := heard.Look(ex, encode(t, nx)); !same(r, heard.Reply{Kind: heard.Vote, Verdict: api.Verdict{Code: 3}}) {
		t.Error(r)
	}
	for _, s := range []string{"", "\x00", "\x00\x07", query[:12], strings.Repeat("\xff", 30)} {
		if r := heard.Look(ex, s); !same(r, heard.Reply{Kind: heard.Bad}) {
			t.Errorf("%q: %v", s, r)
		}
	}
	for _, n := range []string{"", "ex", "\xC0\x00"} {
		q := api.Question{Name: n, Type: 1, Class: 1}
		for _, two := range []string{"\x81\x00", "\x83\x00", "\x01\x00"} {
			if r := heard.Look(q, flags(query, two)); !same(r, heard.Reply{Kind: heard.Bad}) {
				t.Error(r)
			}
		}
	}
}

func random(r *rand.Rand) api.Msg {
	places := []string{"ex.", "Ex.", "a.ex.", "b.ex."}
	record := func() api.Record {
		x := addr(places[r.Intn(4)], byte(r.Intn(3)), uint32(r.Intn(9)))
		if r.Intn(3) == 0 {
			x.Type, x.Data = api.CNAME, named(places[r.Intn(4)])
		}
		return x
	}
	return reply(func(m *api.Msg) {
		m.Answers = nil
		for range r.Intn(4) {
			m.Answers = append(m.Answers, record())
		}
		for range r.Intn(3) {
			m.Authority = append(m.Authority, api.Record{Name: named([]string{".", "ex.", "com."}[r.Intn(3)]), Type: api.SOA, Class: 1, TTL: uint32(r.Intn(9)), Data: "\x00\x00" + strings.Repeat("\x00", 19) + "\x05"})
		}
		m.QR, m.TC = r.Intn(10) > 0, r.Intn(10) == 0
		m.Code = []uint8{0, 0, 0, 3, 3, 2}[r.Intn(6)]
		if r.Intn(10) == 0 {
			m.Op = uint8(r.Intn(16))
		}
		if r.Intn(10) == 0 {
			m.Edns.Ext = uint8(r.Intn(3))
		}
	})
}

// P24.4, P24.5, P24.7: any replies, and what changes nothing.
func TestAny(t *testing.T) {
	r := rand.New(rand.NewSource(1))
	seen := map[uint8]int{}
	for range 5000 {
		m := random(r)
		got := heard.Look(ex, encode(t, m))
		seen[got.Kind]++
		v, time, e := verdict.Of(ex, m)
		want := heard.Reply{Kind: heard.Vote, Verdict: v, Time: time}
		switch {
		case !m.QR || m.Op != 0:
			want = heard.Reply{Kind: heard.Bad}
		case m.TC || int(m.Edns.Ext)*16+int(m.Code) != 0 && int(m.Edns.Ext)*16+int(m.Code) != 3:
			want = heard.Reply{Kind: heard.Pass}
		case e != api.OK:
			want = heard.Reply{Kind: heard.Bad}
		}
		if !same(got, want) {
			t.Fatalf("%v: %v, not %v", m, got, want)
		}
		m.ID, m.AA, m.RD, m.RA, m.Z, m.AD, m.CD = uint16(r.Intn(1<<16)), r.Intn(2) == 0, r.Intn(2) == 0, r.Intn(2) == 0, r.Intn(2) == 0, r.Intn(2) == 0, r.Intn(2) == 0
		m.Extra = []api.Record{addr("ex.", 9, 0), {Name: named("ex."), Type: 99, Data: "x"}}
		m.Edns.Size, m.Edns.Flags, m.Edns.Options = uint16(r.Intn(1<<16)), uint16(r.Intn(1<<16)), []api.Option{{Code: 1, Data: "x"}}
		m.Questions = []api.Question{{Name: named("eX."), Type: api.A, Class: api.IN}}
		for _, l := range [][]api.Record{m.Answers, m.Authority} {
			r.Shuffle(len(l), func(i, j int) { l[i], l[j] = l[j], l[i] })
		}
		s := encode(t, m)
		if again := heard.Look(api.Question{Name: named("EX."), Type: 1, Class: 1}, s); !same(again, want) {
			t.Fatalf("%v: %v, not %v", m, again, want)
		}
		for _, bad := range []string{s[:r.Intn(len(s))], s + "\x00", s + s} {
			if again := heard.Look(ex, bad); !same(again, heard.Reply{Kind: heard.Bad}) {
				t.Fatalf("%q: %v", bad, again)
			}
		}
	}
	for kind := heard.Bad; kind <= heard.Vote; kind++ {
		if seen[kind] < 300 {
			t.Error(seen)
		}
	}
}

// P24.3: a reply to a query, without any record, is a vote without sets.
func TestEmptyReply(t *testing.T) {
	r := rand.New(rand.NewSource(2))
	for range 500 {
		q := api.Question{Name: named([]string{".", "Ex.", "a.b.c."}[r.Intn(3)]), Type: uint16(r.Intn(1 << 16)), Class: uint16(r.Intn(1 << 16))}
		s, e := heard.Query(q, uint16(r.Intn(1<<16)), r.Intn(1<<16))
		if e != api.OK {
			t.Fatal(e)
		}
		m, e := wire.Decode(s)
		if back, _ := wire.Encode(m); e != api.OK || back != s || !slices.Equal(m.Questions, []api.Question{{Name: name.Fold(q.Name), Type: q.Type, Class: q.Class}}) {
			t.Fatal(m, e)
		}
		m.QR = true
		if got := heard.Look(q, encode(t, m)); !same(got, heard.Reply{Kind: heard.Vote}) {
			t.Fatal(got)
		}
	}
}
