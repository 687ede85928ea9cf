package answer_test

import (
	"math/rand"
	"slices"
	"strings"
	"testing"

	"hustings/answer"
	"hustings/api"
	"hustings/heard"
	"hustings/intake"
	"hustings/name"
	"hustings/verdict"
	"hustings/wire"
)

func named(s string) string {
	n, e := name.Parse(s)
	if e != api.OK {
		panic(s)
	}
	return n
}

const query = "\x00\x07\x01\x00\x00\x01\x00\x00\x00\x00\x00\x00\x02\x65\x78\x00\x00\x01\x00\x01"

func asked(edns bool, size int) intake.Came {
	c := intake.Look(query)
	c.HasEdns, c.Size = edns, size
	return c
}

// addresses is a verdict of so many.
func addresses(n int) api.Verdict {
	s := api.Set{Name: named("ex."), Type: api.A, Class: api.IN}
	for i := range n {
		s.Data = append(s.Data, "\x0a\x00"+string([]byte{byte(i >> 8), byte(i + 1)}))
	}
	return api.Verdict{Sets: []api.Set{s}}
}

func decode(t *testing.T, s string) api.Msg {
	t.Helper()
	m, e := wire.Decode(s)
	if e != api.OK {
		t.Fatalf("%q: %v", s, e)
	}
	return m
}

// P28.1, P28.2: the chapter's examples.
func TestExamples(t *testing.T) {
	c := intake.Look(query)
	if s := answer.Code(c, 2, 512); s != "\x00\x07\x81\x82\x00\x01\x00\x00\x00\x00\x00\x00\x02\x65\x78\x00\x00\x01\x00\x01" {
		t.Errorf("%q", s)
	}
	if s := answer.Of(c, addresses(1), 5, 512); s != "\x00\x07\x81\x80\x00\x01\x00\x01\x00\x00\x00\x00\x02\x65\x78\x00\x00\x01\x00\x01\xC0\x0C\x00\x01\x00\x01\x00\x00\x00\x05\x00\x04\x0A\x00\x00\x01" {
		t.Errorf("%q", s)
	}
	if s := answer.Of(c, addresses(30), 5, 4096); len(s) != 500 {
		t.Error(len(s))
	}
	for _, n := range []int{31, 40} {
		if s := answer.Of(c, addresses(n), 5, 4096); s != "\x00\x07\x83\x80\x00\x01\x00\x00\x00\x00\x00\x00\x02\x65\x78\x00\x00\x01\x00\x01" {
			t.Errorf("%q", s)
		}
	}
	if s := answer.Of(asked(true, 4096), addresses(75), 5, 1232); len(s) != 1231 {
		t.Error(len(s))
	}
	s := answer.Of(asked(true, 4096), addresses(76), 5, 1232)
	want := api.Msg{Head: api.Head{ID: 7, QR: true, TC: true, RD: true, RA: true}, Questions: []api.Question{c.Question}, HasEdns: true, Edns: api.Edns{Size: 1232}}
	if !wire.Same(decode(t, s), want) {
		t.Errorf("%q", s)
	}
}

// P28.1: what has no reply with a code.
func TestCode(t *testing.T) {
	change := func(f func(c *intake.Came)) intake.Came {
		c := asked(false, 0)
		f(&c)
		return c
	}
	good := asked(false, 0)
	tell := change(func(c *intake.Came) { c.Kind = intake.Tell })
	for i, x := range []struct {
		c          intake.Came
		code, size int
		is         bool
	}{
		{good, 0, 512, true}, {good, 15, 4096, true}, {tell, 5, 1232, true}, {asked(true, 0), 16, 512, true}, {asked(true, 0), 4095, 512, true},
		{good, 16, 512, false}, {tell, 16, 512, false}, {good, -1, 512, false}, {good, 4096, 512, false}, {asked(true, 0), 4096, 512, false}, {asked(true, 0), -1, 512, false}, {good, 1 << 40, 512, false},
		{good, 2, 511, false}, {good, 2, 4097, false}, {good, 2, 0, false}, {good, 2, -1, false}, {good, 2, 1<<32 + 512, false},
		{intake.Came{}, 2, 512, false}, {intake.Came{Kind: intake.Drop}, 2, 512, false}, {change(func(c *intake.Came) { c.Kind = 4 }), 2, 512, false},
		{change(func(c *intake.Came) { c.Question.Name = "ex" }), 2, 512, false}, {change(func(c *intake.Came) { c.Head.Op = 16 }), 2, 512, false},
		{change(func(c *intake.Came) { c.Question.Name, c.HasQuestion = "ex", false }), 2, 512, true},
	} {
		s := answer.Code(x.c, x.code, x.size)
		if (s != "") != x.is {
			t.Errorf("%d: %q", i, s)
		}
		if !x.is {
			continue
		}
		m := decode(t, s)
		want := api.Msg{Head: api.Head{ID: 7, QR: true, RD: true, RA: true, Code: uint8(x.code & 15)}}
		if x.c.HasQuestion {
			want.Questions = []api.Question{x.c.Question}
		}
		if x.c.HasEdns {
			want.HasEdns, want.Edns = true, api.Edns{Size: uint16(x.size), Ext: uint8(x.code >> 4)}
		}
		if !wire.Same(m, want) {
			t.Errorf("%d: %+v", i, m)
		}
	}
}

// P28.2: what has no reply with a verdict.
func TestOf(t *testing.T) {
	good := asked(false, 0)
	change := func(f func(c *intake.Came)) intake.Came {
		c := good
		f(&c)
		return c
	}
	with := func(f func(v *api.Verdict)) api.Verdict {
		v := addresses(2)
		f(&v)
		return v
	}
	v := addresses(2)
	for i, x := range []struct {
		c    intake.Came
		v    api.Verdict
		ttl  uint32
		size int
		is   bool
	}{
		{good, v, 0, 512, true}, {good, v, 1<<31 - 1, 4096, true}, {good, api.Verdict{Code: 3}, 9, 512, true}, {good, api.Verdict{}, 9, 512, true},
		{good, v, 1 << 31, 512, false}, {good, v, 1<<32 - 1, 512, false}, {good, v, 5, 511, false}, {good, v, 5, 4097, false}, {good, v, 5, -1, false},
		{good, with(func(v *api.Verdict) { v.Code = 2 }), 5, 512, false}, {good, with(func(v *api.Verdict) { v.Code = 1 }), 5, 512, false}, {good, with(func(v *api.Verdict) { v.Code = 255 }), 5, 512, false},
		{change(func(c *intake.Came) { c.Kind = intake.Tell }), v, 5, 512, false}, {intake.Came{Kind: intake.Drop}, v, 5, 512, false}, {change(func(c *intake.Came) { c.Kind = 0 }), v, 5, 512, false},
		{change(func(c *intake.Came) { c.Question.Name = "" }), v, 5, 512, false}, {change(func(c *intake.Came) { c.Head.Op = 16 }), v, 5, 512, false},
		{good, with(func(v *api.Verdict) { v.Sets[0].Data[1] = "abc" }), 5, 512, false}, {good, with(func(v *api.Verdict) { v.Sets[0].Name = "ex" }), 5, 512, false}, {good, with(func(v *api.Verdict) { v.Sets[0].Type = api.OPT }), 5, 512, false},
		{good, with(func(v *api.Verdict) { v.Soa = []api.Set{{Name: "bad", Data: []string{"x"}}} }), 5, 512, false},
		// One invalid datum among too many to fit.
		{good, with(func(v *api.Verdict) { v.Sets[0].Data = append(addresses(5000).Sets[0].Data, "abc") }), 5, 512, false},
		{good, with(func(v *api.Verdict) { v.Sets[0].TTL = 1<<32 - 1 }), 5, 512, true},
		{good, with(func(v *api.Verdict) { v.Sets[0].Data = slices.Repeat([]string{"abcd"}, 65536) }), 5, 512, false},
		{good, with(func(v *api.Verdict) { v.Sets[0].Data = slices.Repeat([]string{"abcd"}, 65535) }), 5, 512, true},
		{good, with(func(v *api.Verdict) { v.Sets[0].Type, v.Sets[0].Data = 99, []string{strings.Repeat("a", 70000)} }), 5, 512, true},
	} {
		if s := answer.Of(x.c, x.v, x.ttl, x.size); (s != "") != x.is {
			t.Errorf("%d: %.200q", i, s)
		}
	}
	op := change(func(c *intake.Came) { c.Head.Op = 3 })
	if m := decode(t, answer.Of(op, api.Verdict{Code: 3}, 9, 512)); m.Op != 3 || m.Code != 3 || !m.QR || m.TC {
		t.Error(m)
	}
}

// P28.2, P28.5: an answer that has just as many bytes as fit, and one that has one more.
func TestExactly(t *testing.T) {
	for _, x := range []struct{ edns, size, room int }{{-1, 4096, 512}, {0, 4096, 512}, {1232, 4096, 1232}, {4096, 1232, 1232}, {4096, 4096, 4096}, {65535, 4096, 4096}} {
		c := asked(x.edns >= 0, max(x.edns, 0))
		fixed := 20 + 12
		if x.edns >= 0 {
			fixed += 11
		}
		for more := range 3 {
			v := api.Verdict{Sets: []api.Set{{Name: named("ex."), Type: 99, Class: api.IN, Data: []string{strings.Repeat("a", x.room-fixed-1+more)}}}}
			s := answer.Of(c, v, 5, x.size)
			if m := decode(t, s); m.TC != (more > 1) || !m.TC && len(s) != x.room-1+more {
				t.Errorf("%v: %d bytes, TC %v", x, len(s), m.TC)
			}
		}
	}
}

func randomVerdict(r *rand.Rand) api.Verdict {
	v := addresses(r.Intn(80) / (1 + r.Intn(20)))
	v.Code = uint8(r.Intn(2) * 3)
	v.Sets[0].TTL = r.Uint32()
	if r.Intn(2) == 0 {
		v.Sets = append([]api.Set{{Name: named("www.ex."), Type: api.CNAME, Class: api.IN, TTL: 7, Data: []string{named("ex.")}}}, v.Sets...)
	}
	if r.Intn(2) == 0 {
		v.Soa = []api.Set{{Name: named("."), Type: api.SOA, Class: api.IN, Data: []string{"\x01a\x00\x01b\x00" + strings.Repeat("s", 20)}}}
	}
	return v
}

func randomCame(r *rand.Rand) intake.Came {
	m := api.Msg{Head: api.Head{ID: uint16(r.Intn(1 << 16)), RD: r.Intn(2) == 0, CD: r.Intn(2) == 0}, Questions: []api.Question{{Name: named([]string{"eX.", "www.ex.", "."}[r.Intn(3)]), Type: api.A, Class: api.IN}}}
	if r.Intn(2) == 0 {
		m.HasEdns, m.Edns.Size = true, uint16(r.Intn(3000))
	}
	s, _ := wire.Encode(m)
	return intake.Look(s)
}

func records(sets []api.Set, ttl uint32) []api.Record {
	var l []api.Record
	for _, s := range sets {
		for _, d := range s.Data {
			l = append(l, api.Record{Name: s.Name, Type: s.Type, Class: s.Class, TTL: ttl, Data: d})
		}
	}
	return l
}

// P28.4 to P28.7: any verdicts.
func TestAny(t *testing.T) {
	r := rand.New(rand.NewSource(1))
	cut := 0
	for range 3000 {
		c, v, ttl, size := randomCame(r), randomVerdict(r), uint32(r.Intn(1<<31)), 512+r.Intn(4096-511)
		s := answer.Of(c, v, ttl, size)
		room := intake.Room(c, size)
		whole := intake.Blank(c, int(v.Code), size)
		whole.Answers, whole.Authority = records(v.Sets, ttl), records(v.Soa, ttl)
		full, _ := wire.Encode(whole)
		if len(full) > room {
			cut++
			whole.TC, whole.Answers, whole.Authority = true, nil, nil
		}
		m := decode(t, s)
		if !wire.Same(m, whole) || len(s) > room || m.ID != c.Head.ID || m.Questions[0] != c.Question {
			t.Fatalf("%+v, not %+v", m, whole)
		}
		other := decode(t, answer.Of(c, v, ttl/2, size))
		for _, l := range [][]api.Record{m.Answers, m.Authority} {
			for i := range l {
				l[i].TTL = ttl / 2
			}
		}
		if !wire.Same(m, other) {
			t.Fatal("another TTL changes more")
		}
		if size < 4096 && !m.TC {
			bigger := decode(t, answer.Of(c, v, ttl/2, size+1))
			if bigger.HasEdns {
				bigger.Edns.Size--
			}
			if !wire.Same(m, bigger) {
				t.Fatal("another size changes more")
			}
		}
		for code := range 16 {
			s := answer.Code(c, code, size)
			if m := decode(t, s); int(m.Code) != code || m.ID != c.Head.ID || len(s) > room || m.Questions[0] != c.Question || m.HasEdns != c.HasEdns || m.TC {
				t.Fatal(m)
			}
		}
	}
	if cut < 50 {
		t.Error(cut)
	}
}

// P28.3: the verdict of an upstream's vote can be read back from the answer.
func TestReadBack(t *testing.T) {
	r := rand.New(rand.NewSource(2))
	votes := 0
	for range 4000 {
		c := randomCame(r)
		q, e := heard.Query(c.Question, 1, 1232)
		if e != api.OK {
			t.Fatal(e)
		}
		m := decode(t, q)
		m.QR, m.Code = true, uint8(r.Intn(2)*3)
		places := []string{"ex.", "www.ex.", "a.ex.", "EX.", "."}
		for range r.Intn(5) {
			x := api.Record{Name: named(places[r.Intn(5)]), Type: api.A, Class: api.IN, TTL: uint32(r.Intn(99)), Data: "\x0a\x00\x00" + string([]byte{byte(r.Intn(9))})}
			if r.Intn(2) == 0 {
				x.Type, x.Data = api.CNAME, named(places[r.Intn(5)])
			}
			m.Answers = append(m.Answers, x)
		}
		if r.Intn(2) == 0 {
			m.Authority = []api.Record{{Name: named(places[r.Intn(5)]), Type: api.SOA, Class: api.IN, TTL: 9, Data: "\x01A\x00\x00" + strings.Repeat("s", 16) + "\x00\x00\x00\x07"}}
		}
		s, _ := wire.Encode(m)
		reply := heard.Look(c.Question, s)
		if reply.Kind != heard.Vote {
			continue
		}
		votes++
		ttl := uint32(1 + r.Intn(99))
		back := decode(t, answer.Of(c, reply.Verdict, ttl, 512))
		v, time, e := verdict.Of(c.Question, back)
		if e != api.OK || !verdict.Same(v, reply.Verdict) || back.TC || time > ttl || back.Questions[0] != c.Question {
			t.Fatalf("%+v: %+v %d %v", reply, v, time, e)
		}
		if _, is := verdict.End(c.Question, v); is && time != ttl {
			t.Fatal(time, ttl)
		}
	}
	if votes < 1000 {
		t.Error(votes)
	}
}

// P28.4: each datagram that is not dropped has a reply with the code of its classification.
func TestTold(t *testing.T) {
	for _, s := range []string{strings.Repeat("\x00", 12), "\x00\x07\x11" + strings.Repeat("\x00", 9), query[:17] + "\x00\x00\x01", query[:10] + "\x00\x01" + query[12:] + "\x00\x00\x29\x04\xD0\x00\x01\x00\x00\x00\x00"} {
		c := intake.Look(s)
		m := decode(t, answer.Code(c, c.Code, 1232))
		if c.Kind != intake.Tell || int(m.Edns.Ext)*16+int(m.Code) != c.Code || m.ID != c.Head.ID || len(m.Questions) == 1 != c.HasQuestion {
			t.Errorf("%q: %+v", s, m)
		}
	}
}

// R3: the verdict stays.
func TestStays(t *testing.T) {
	v := addresses(3)
	v.Sets[0].TTL = 77
	answer.Of(asked(false, 0), v, 5, 512)
	if want := addresses(3); v.Sets[0].TTL != 77 || !slices.Equal(v.Sets[0].Data, want.Sets[0].Data) {
		t.Error(v)
	}
}
