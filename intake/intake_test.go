package intake_test

import (
	"math/rand"
	"strings"
	"testing"

	"hustings/api"
	"hustings/head"
	"hustings/intake"
	"hustings/name"
	"hustings/wire"
)

const ex = "\x02ex\x00"

func encode(t *testing.T, m api.Msg) string {
	t.Helper()
	s, e := wire.Encode(m)
	if e != api.OK {
		t.Fatal(e)
	}
	return s
}

func ask(kind, class uint16) api.Msg {
	return api.Msg{Head: api.Head{ID: 7, RD: true}, Questions: []api.Question{{Name: ex, Type: kind, Class: class}}}
}

func with(m api.Msg, change func(m *api.Msg)) api.Msg {
	change(&m)
	return m
}

// P25.1: the chapter's examples, and each reason.
func TestLook(t *testing.T) {
	asks := intake.Came{Kind: intake.Asks, Head: api.Head{ID: 7, RD: true}, HasQuestion: true, Question: api.Question{Name: ex, Type: api.A, Class: api.IN}}
	tell := func(code int, change func(c *intake.Came)) intake.Came {
		c := intake.Came{Kind: intake.Tell, Code: code, Head: api.Head{ID: 7, RD: true}}
		change(&c)
		return c
	}
	nothing := func(c *intake.Came) {}
	question := func(kind, class uint16) func(c *intake.Came) {
		return func(c *intake.Came) {
			c.HasQuestion, c.Question = true, api.Question{Name: ex, Type: kind, Class: class}
		}
	}
	q := ask(api.A, api.IN)
	for i, x := range []struct {
		s    string
		want intake.Came
	}{
		{"", intake.Came{Kind: intake.Drop}},
		{strings.Repeat("\x00", 11), intake.Came{Kind: intake.Drop}},
		{strings.Repeat("\xff", 11), intake.Came{Kind: intake.Drop}},
		{strings.Repeat("\x00", 12), intake.Came{Kind: intake.Tell, Code: 1}},
		{"\x00\x07\x80" + strings.Repeat("\x00", 9), intake.Came{Kind: intake.Drop}},
		{"\x00\x07\x90" + strings.Repeat("\x00", 9), intake.Came{Kind: intake.Drop}},
		{encode(t, with(q, func(m *api.Msg) { m.QR = true })), intake.Came{Kind: intake.Drop}},
		{"\x00\x07\x11" + strings.Repeat("\x00", 9), tell(4, func(c *intake.Came) { c.Head.Op = 2 })},
		{"\x00\x07\x11" + strings.Repeat("\xff", 9), tell(4, func(c *intake.Came) { c.Head.Op, c.Head.CD = 2, true })},
		{encode(t, with(q, func(m *api.Msg) { m.Op = 15 })), tell(4, func(c *intake.Came) { c.Head.Op = 15 })},
		{encode(t, q), asks},
		{encode(t, q) + "\x00", tell(1, nothing)},
		{encode(t, q)[:19], tell(1, nothing)},
		{encode(t, with(q, func(m *api.Msg) { m.Questions = append(m.Questions, m.Questions[0]) })), tell(1, nothing)},
		{encode(t, with(q, func(m *api.Msg) { m.Questions, m.HasEdns, m.Edns = nil, true, api.Edns{Size: 9, Version: 1} })), tell(1, func(c *intake.Came) { c.HasEdns, c.Size = true, 9 })},
		{encode(t, ask(api.A, 3)), tell(5, question(api.A, 3))},
		{encode(t, ask(api.A, 0)), tell(5, question(api.A, 0))},
		{encode(t, ask(api.A, 255)), tell(5, question(api.A, 255))},
		{encode(t, ask(0, 1)), tell(5, question(0, 1))},
		{encode(t, ask(41, 1)), tell(5, question(41, 1))},
		{encode(t, ask(249, 1)), tell(5, question(249, 1))},
		{encode(t, ask(252, 1)), tell(5, question(252, 1))},
		{encode(t, ask(255, 1)), tell(5, question(255, 1))},
		{encode(t, with(q, func(m *api.Msg) { m.HasEdns, m.Edns = true, api.Edns{Size: 1232, Version: 1} })), tell(16, func(c *intake.Came) { question(1, 1)(c); c.HasEdns, c.Size = true, 1232 })},
		{encode(t, with(ask(255, 3), func(m *api.Msg) { m.HasEdns, m.Edns.Version = true, 255 })), tell(16, func(c *intake.Came) { question(255, 3)(c); c.HasEdns = true })},
		{encode(t, with(ask(255, 3), func(m *api.Msg) { m.HasEdns, m.Edns.Size = true, 512 })), tell(5, func(c *intake.Came) { question(255, 3)(c); c.HasEdns, c.Size = true, 512 })},
	} {
		if got := intake.Look(x.s); got != x.want {
			t.Errorf("%d: %+v, not %+v", i, got, x.want)
		}
	}
	for _, kind := range []uint16{1, 2, 5, 40, 42, 248, 256, 65535} {
		if c := intake.Look(encode(t, ask(kind, 1))); c.Kind != intake.Asks || c.Question.Type != kind || c.Code != 0 {
			t.Error(kind, c)
		}
	}
	if intake.Drop != 1 || intake.Tell != 2 || intake.Asks != 3 {
		t.Error("the kinds")
	}
}

// P25.1, P25.6: whatever else is in it, it asks the same.
func TestQuestionAlone(t *testing.T) {
	r := rand.New(rand.NewSource(1))
	for range 2000 {
		m := ask(api.AAAA, api.IN)
		m.Questions[0].Name = "\x01A\x02eX\x00"
		m.Head = head.From(uint16(r.Intn(1 << 16)))
		m.ID, m.QR, m.Op = uint16(r.Intn(1<<16)), false, 0
		for _, l := range []*[]api.Record{&m.Answers, &m.Authority, &m.Extra} {
			if r.Intn(2) == 0 {
				*l = []api.Record{{Name: ex, Type: api.A, Class: 9, Data: "abcd"}, {Name: ex, Type: api.CNAME, Data: ex}}
			}
		}
		want := intake.Came{Kind: intake.Asks, Head: api.Head{ID: m.ID, RD: m.RD, CD: m.CD}, HasQuestion: true, Question: m.Questions[0]}
		if r.Intn(2) == 0 {
			m.HasEdns, m.Edns = true, api.Edns{Size: uint16(r.Intn(1 << 16)), Ext: uint8(r.Intn(256)), Flags: uint16(r.Intn(1 << 16)), Options: []api.Option{{Code: 3}}}
			want.HasEdns, want.Size = true, int(m.Edns.Size)
		}
		if got := intake.Look(encode(t, m)); got != want {
			t.Fatalf("%+v, not %+v", got, want)
		}
	}
}

// P25.2, P25.7: size limits.
func TestRoom(t *testing.T) {
	for _, x := range []struct {
		edns             bool
		size, most, want int
	}{
		{true, 4000, 1232, 1232}, {true, 100, 1232, 512}, {true, 800, 1232, 800}, {true, 1232, 1232, 1232}, {true, 513, 1232, 513}, {true, 65535, 4096, 4096}, {true, 4000, 100, 512}, {true, 4000, 0, 512}, {true, 4000, -5, 512},
		{true, 0, 4096, 512}, {false, 0, 4096, 512}, {false, 4000, 4096, 512}, {true, 65535, 1 << 40, 65535},
	} {
		if got := intake.Room(intake.Came{Kind: intake.Asks, HasEdns: x.edns, Size: x.size}, x.most); got != x.want {
			t.Error(x, got)
		}
	}
	r := rand.New(rand.NewSource(2))
	for range 2000 {
		most, size := r.Intn(5000), r.Intn(5000)
		a := intake.Room(intake.Came{HasEdns: true, Size: size}, most)
		b := intake.Room(intake.Came{HasEdns: true, Size: size + r.Intn(100)}, most)
		if a < 512 || a > max(512, most) || b < a {
			t.Fatal(size, most, a, b)
		}
	}
}

// P25.2: replies without records.
func TestBlank(t *testing.T) {
	all := api.Head{ID: 9, QR: false, Op: 3, AA: true, TC: true, RD: true, RA: false, Z: true, AD: true, CD: true, Code: 7}
	q := api.Question{Name: "\x02eX\x00", Type: 5, Class: 6}
	m := intake.Blank(intake.Came{Kind: intake.Tell, Code: 1, Head: all, HasQuestion: true, Question: q, HasEdns: true, Size: 77}, 0xABC, 0x12345)
	want := api.Msg{Head: api.Head{ID: 9, QR: true, Op: 3, RD: true, RA: true, CD: true, Code: 0xC}, Questions: []api.Question{q}, HasEdns: true, Edns: api.Edns{Size: 0x2345, Ext: 0xAB}}
	if !wire.Same(m, want) {
		t.Errorf("%+v", m)
	}
	m = intake.Blank(intake.Came{Head: api.Head{ID: 8}, Question: q, Size: 99}, 16, 1232)
	if !wire.Same(m, api.Msg{Head: api.Head{ID: 8, QR: true, RA: true}}) {
		t.Errorf("%+v", m)
	}
	for code, want := range map[int][2]uint8{0: {0, 0}, 15: {15, 0}, 16: {0, 1}, 4095: {15, 255}, 4096: {0, 0}, 4097 + 32: {1, 2}, -1: {15, 255}, -4096: {0, 0}, 1 << 40: {0, 0}} {
		m = intake.Blank(intake.Came{HasEdns: true}, code, 512)
		if m.Code != want[0] || m.Edns.Ext != want[1] || m.Edns.Size != 512 || m.Edns.Version != 0 || m.Edns.Flags != 0 || len(m.Edns.Options) != 0 {
			t.Error(code, m)
		}
		if m = intake.Blank(intake.Came{}, code, 512); m.Code != want[0] || m.HasEdns || m.Edns.Ext != 0 {
			t.Error(code, m)
		}
	}
}

// P25.3 to P25.5: any bytes.
func TestAny(t *testing.T) {
	r := rand.New(rand.NewSource(3))
	seen := map[int]int{}
	for range 30000 {
		m := ask([]uint16{1, 1, 255, 0}[r.Intn(4)], uint16(1+r.Intn(8)/7))
		m.Op = uint8(r.Intn(6) / 5 * r.Intn(16))
		m.QR = r.Intn(9) == 0
		m.HasEdns = r.Intn(2) == 0
		if m.HasEdns {
			m.Edns = api.Edns{Size: uint16(r.Intn(1 << 16)), Version: uint8(r.Intn(9) / 8)}
		}
		b := []byte(encode(t, m))
		if r.Intn(3) == 0 {
			b[r.Intn(len(b))] = byte(r.Intn(256))
		}
		if r.Intn(4) == 0 {
			b = b[:r.Intn(len(b))]
		}
		s := string(b)
		c := intake.Look(s)
		if drop := len(s) < 12 || s[2]&0x80 != 0; drop != (c.Kind == intake.Drop) {
			t.Fatalf("%q: %+v", s, c)
		} else if drop {
			if c != (intake.Came{Kind: intake.Drop}) {
				t.Fatal(c)
			}
			seen[-1]++
			continue
		}
		seen[c.Code]++
		if op := s[2] >> 3 & 15; (op != 0) != (c.Code == 4) {
			t.Fatalf("%q: %+v", s, c)
		}
		read, e := wire.Decode(s)
		if c.HasEdns != (e == api.OK && read.HasEdns) || c.Size != int(read.Edns.Size) || c.Head.ID != uint16(s[0])<<8|uint16(s[1]) {
			t.Fatalf("%q: %+v", s, c)
		}
		switch c.Kind {
		case intake.Tell:
			if c.Code != 1 && c.Code != 4 && c.Code != 5 && c.Code != 16 || c.HasQuestion != (c.Code == 5 || c.Code == 16) {
				t.Fatalf("%q: %+v", s, c)
			}
		case intake.Asks:
			if c.Code != 0 || !c.HasQuestion || !name.May(c.Question.Name) || c.Question.Class != api.IN {
				t.Fatalf("%q: %+v", s, c)
			}
		default:
			t.Fatal(c)
		}
		code := r.Intn(16)
		reply := intake.Blank(c, code, 1232)
		back, e := wire.Decode(encode(t, reply))
		if e != api.OK || !wire.Same(back, reply) || back.ID != c.Head.ID || !back.QR || int(back.Code) != code || len(encode(t, reply)) > intake.Room(c, 1232) {
			t.Fatalf("%q: %+v", s, reply)
		}
		if c.HasQuestion && (len(back.Questions) != 1 || back.Questions[0] != read.Questions[0]) {
			t.Fatal(back)
		}
	}
	for _, code := range []int{-1, 0, 1, 4, 5, 16} {
		if seen[code] < 100 {
			t.Error(seen)
		}
	}
}
