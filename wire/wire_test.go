package wire_test

import (
	"math/rand"
	"slices"
	"strings"
	"testing"

	"hustings/api"
	"hustings/head"
	"hustings/wire"
)

const ex = "\x02ex\x00"

var twenty = strings.Repeat("\x01\x02\x03\x04\x05", 4)

func randomName(r *rand.Rand) string {
	var b strings.Builder
	for range r.Intn(4) {
		b.WriteString([]string{"\x01a", "\x01A", "\x02ex", "\x01b", "\x03\x01a\x00"}[r.Intn(5)])
	}
	return b.String() + "\x00"
}

func randomRecord(r *rand.Rand) api.Record {
	x := api.Record{Name: randomName(r), Class: uint16(r.Intn(3)), TTL: r.Uint32()}
	a, b := randomName(r), randomName(r)
	switch r.Intn(9) {
	case 0:
		x.Type, x.Data = api.A, "\x0a\x00\x00\x01"
	case 1:
		x.Type, x.Data = []uint16{api.NS, api.CNAME, api.PTR}[r.Intn(3)], a
	case 2:
		x.Type, x.Data = api.MX, "\x01a"+a
	case 3:
		x.Type, x.Data = api.SOA, a+b+twenty
	case 4:
		x.Type, x.Data = api.SRV, "\x01\x02\x03\x04\x05\x06"+a
	case 5:
		x.Type, x.Data = api.TXT, "\x02ex\x00"
	case 6:
		x.Type, x.Data = api.AAAA, strings.Repeat("a", 16)
	case 7:
		x.Type, x.Data = 99, a
	default:
		x.Type, x.Data = 0, ""
	}
	return x
}

func randomRecords(r *rand.Rand) []api.Record {
	var l []api.Record
	for range r.Intn(4) {
		l = append(l, randomRecord(r))
	}
	return l
}

func random(r *rand.Rand) api.Msg {
	m := api.Msg{Head: head.From(uint16(r.Intn(1 << 16)))}
	m.ID = uint16(r.Intn(1 << 16))
	for range r.Intn(3) {
		m.Questions = append(m.Questions, api.Question{Name: randomName(r), Type: uint16(r.Intn(300)), Class: uint16(r.Intn(3))})
	}
	m.Answers, m.Authority, m.Extra = randomRecords(r), randomRecords(r), randomRecords(r)
	if r.Intn(2) == 0 {
		m.HasEdns = true
		m.Edns = api.Edns{Size: uint16(r.Intn(1 << 16)), Ext: uint8(r.Intn(256)), Version: uint8(r.Intn(256)), Flags: uint16(r.Intn(1 << 16))}
		for range r.Intn(3) {
			m.Edns.Options = append(m.Edns.Options, api.Option{Code: uint16(r.Intn(99)), Data: "abc"[:r.Intn(4)]})
		}
	}
	return m
}

// same holds two messages against each other, without the package under test.
func same(a, b api.Msg) bool {
	x, y := a.Edns, b.Edns
	return a.Head == b.Head && slices.Equal(a.Questions, b.Questions) && slices.Equal(a.Answers, b.Answers) && slices.Equal(a.Authority, b.Authority) &&
		slices.Equal(a.Extra, b.Extra) && a.HasEdns == b.HasEdns && x.Size == y.Size && x.Ext == y.Ext && x.Version == y.Version && x.Flags == y.Flags && slices.Equal(x.Options, y.Options)
}

// model writes a message as S2 says, told plainly.
type model struct {
	b     []byte
	known map[string]int
	plain bool
}

func (m *model) num(n, size int) {
	for i := size - 1; i >= 0; i-- {
		m.b = append(m.b, byte(n>>(8*i)))
	}
}

func (m *model) name(n string) {
	offset := len(m.b)
	for at := 0; n[at] != 0; at += 1 + int(n[at]) {
		if to, is := m.known[n[at:]]; is && !m.plain {
			m.num(0xC000+to, 2)
			return
		}
		if offset+at <= 16383 {
			if _, is := m.known[n[at:]]; !is {
				m.known[n[at:]] = offset + at
			}
		}
		m.b = append(m.b, n[at:at+1+int(n[at])]...)
	}
	m.b = append(m.b, 0)
}

func nameLength(s string) int {
	at := 0
	for s[at] != 0 {
		at += 1 + int(s[at])
	}
	return at + 1
}

func (m *model) data(kind uint16, s string) {
	switch kind {
	case api.NS, api.CNAME, api.PTR:
		m.name(s)
	case api.MX:
		m.b = append(m.b, s[:2]...)
		m.name(s[2:])
	case api.SOA:
		n := nameLength(s)
		m.name(s[:n])
		m.name(s[n : len(s)-20])
		m.b = append(m.b, s[len(s)-20:]...)
	default:
		m.b = append(m.b, s...)
	}
}

func write(m api.Msg, plain bool) string {
	w := &model{known: map[string]int{}, plain: plain}
	w.num(int(m.ID), 2)
	flags, _ := head.Flags(m.Head)
	w.num(int(flags), 2)
	extra := len(m.Extra)
	if m.HasEdns {
		extra++
	}
	for _, n := range []int{len(m.Questions), len(m.Answers), len(m.Authority), extra} {
		w.num(n, 2)
	}
	for _, q := range m.Questions {
		w.name(q.Name)
		w.num(int(q.Type), 2)
		w.num(int(q.Class), 2)
	}
	for _, l := range [][]api.Record{m.Answers, m.Authority, m.Extra} {
		for _, x := range l {
			w.name(x.Name)
			w.num(int(x.Type), 2)
			w.num(int(x.Class), 2)
			w.num(int(x.TTL), 4)
			w.num(0, 2)
			from := len(w.b)
			w.data(x.Type, x.Data)
			n := len(w.b) - from
			w.b[from-2], w.b[from-1] = byte(n>>8), byte(n)
		}
	}
	if m.HasEdns {
		w.num(0, 1)
		w.num(41, 2)
		w.num(int(m.Edns.Size), 2)
		w.num(int(m.Edns.Ext), 1)
		w.num(int(m.Edns.Version), 1)
		w.num(int(m.Edns.Flags), 2)
		n := 0
		for _, o := range m.Edns.Options {
			n += 4 + len(o.Data)
		}
		w.num(n, 2)
		for _, o := range m.Edns.Options {
			w.num(int(o.Code), 2)
			w.num(len(o.Data), 2)
			w.b = append(w.b, o.Data...)
		}
	}
	return string(w.b)
}

// P7.1, P7.2: the chapter's examples.
func TestExamples(t *testing.T) {
	question := []api.Question{{Name: ex, Type: api.A, Class: api.IN}}
	for _, x := range []struct {
		m api.Msg
		s string
	}{
		{api.Msg{Head: api.Head{ID: 7}}, "\x00\x07" + strings.Repeat("\x00", 10)},
		{api.Msg{Head: api.Head{ID: 1, RD: true}, Questions: question}, "\x00\x01\x01\x00\x00\x01\x00\x00\x00\x00\x00\x00\x02\x65\x78\x00\x00\x01\x00\x01"},
		{
			api.Msg{Head: api.Head{ID: 1, QR: true}, Questions: question, Answers: []api.Record{{Name: ex, Type: api.A, Class: api.IN, TTL: 5, Data: "\x0a\x00\x00\x01"}}},
			"\x00\x01\x80\x00\x00\x01\x00\x01\x00\x00\x00\x00\x02\x65\x78\x00\x00\x01\x00\x01\xC0\x0C\x00\x01\x00\x01\x00\x00\x00\x05\x00\x04\x0A\x00\x00\x01",
		},
		{
			api.Msg{HasEdns: true, Edns: api.Edns{Size: 1232}},
			"\x00\x00\x00\x00\x00\x00\x00\x00\x00\x00\x00\x01" + "\x00\x00\x29\x04\xD0\x00\x00\x00\x00\x00\x00",
		},
	} {
		if s, e := wire.Encode(x.m); s != x.s || e != api.OK {
			t.Errorf("%q %v", s, e)
		}
		if n, e := wire.Size(x.m); n != len(x.s) || e != api.OK {
			t.Errorf("%d %v", n, e)
		}
		if m, e := wire.Decode(x.s); !same(m, x.m) || e != api.OK {
			t.Errorf("%v %v", m, e)
		}
		if !wire.May(x.m) {
			t.Error(x.m)
		}
	}
}

// P7.1, P7.3, P7.4, P7.6: any valid message.
func TestEncode(t *testing.T) {
	r := rand.New(rand.NewSource(1))
	for range 3000 {
		m := random(r)
		s, e := wire.Encode(m)
		want := write(m, false)
		if e != api.OK || s != want {
			t.Fatalf("%v: %q %v, not %q", m, s, e, want)
		}
		if n, e := wire.Size(m); n != len(s) || e != api.OK {
			t.Fatal(n, e)
		}
		if !wire.May(m) || len(s) < 12 || len(s) > len(write(m, true)) {
			t.Fatalf("%q", s)
		}
		back, e := wire.Decode(s)
		if e != api.OK || !same(back, m) || !wire.Same(back, m) {
			t.Fatalf("%v: read back as %v, %v", m, back, e)
		}
		if again, e := wire.Decode(write(m, true)); e != api.OK || !same(again, m) {
			t.Fatalf("%v: uncompressed it is %v, %v", m, again, e)
		}
		extra := len(m.Extra)
		if m.HasEdns {
			extra++
		}
		first, _ := head.Write(m.Head, head.Counts{len(m.Questions), len(m.Answers), len(m.Authority), extra})
		if s[:12] != first {
			t.Fatalf("%q", s[:12])
		}
		m.ID ^= 0x1234
		if t2, _ := wire.Encode(m); t2[2:] != s[2:] || t2[:2] != string([]byte{byte(m.ID >> 8), byte(m.ID)}) {
			t.Fatalf("%q", t2)
		}
	}
}

// P7.5: neither less nor more.
func TestTruncated(t *testing.T) {
	r := rand.New(rand.NewSource(2))
	for range 150 {
		s, _ := wire.Encode(random(r))
		for cut := range len(s) {
			if m, e := wire.Decode(s[:cut]); e != api.ErrShort || !same(m, api.Msg{}) {
				t.Fatalf("%q: %v %v", s[:cut], m, e)
			}
		}
		for _, more := range []string{"\x00", "a", s, "\xC0\x0C"} {
			if m, e := wire.Decode(s + more); e != api.ErrLong || !same(m, api.Msg{}) {
				t.Fatalf("%q: %v %v", s+more, m, e)
			}
		}
	}
}

// P7.1: what is not valid.
func TestInvalid(t *testing.T) {
	of := func(change func(m *api.Msg)) api.Msg {
		m := api.Msg{Questions: []api.Question{{Name: ex, Type: 1, Class: 1}}, HasEdns: true}
		for _, l := range []*[]api.Record{&m.Answers, &m.Authority, &m.Extra} {
			*l = []api.Record{{Name: ex, Type: api.A, Class: 1, Data: "abcd"}}
		}
		change(&m)
		return m
	}
	if m := of(func(m *api.Msg) {}); !wire.May(m) {
		t.Error(m)
	}
	for i, m := range []api.Msg{
		of(func(m *api.Msg) { m.Op = 16 }), of(func(m *api.Msg) { m.Code = 16 }),
		of(func(m *api.Msg) { m.Questions[0].Name = "" }), of(func(m *api.Msg) { m.Questions[0].Name = "\xC0\x00" }),
		of(func(m *api.Msg) { m.Answers[0].Name = "ex" }), of(func(m *api.Msg) { m.Authority[0].Name = "\x02ex" }), of(func(m *api.Msg) { m.Extra[0].Name = "\x00\x00" }),
		of(func(m *api.Msg) { m.Answers[0].Data = "abc" }), of(func(m *api.Msg) { m.Authority[0].Data = "abcde" }), of(func(m *api.Msg) { m.Extra[0].Data = "" }),
		of(func(m *api.Msg) { m.Answers[0].Type, m.Answers[0].Data = api.OPT, "" }), of(func(m *api.Msg) { m.Extra[0] = api.Record{Name: "\x00", Type: api.OPT} }),
		of(func(m *api.Msg) { m.Authority[0].Type = api.OPT }),
		of(func(m *api.Msg) { m.HasEdns, m.Edns.Size = false, 1 }), of(func(m *api.Msg) { m.HasEdns, m.Edns.Ext = false, 1 }), of(func(m *api.Msg) { m.HasEdns, m.Edns.Version = false, 1 }),
		of(func(m *api.Msg) { m.HasEdns, m.Edns.Flags = false, 1 }), of(func(m *api.Msg) { m.HasEdns, m.Edns.Options = false, []api.Option{{}} }),
		of(func(m *api.Msg) { m.Questions = slices.Repeat(m.Questions, 65536) }), of(func(m *api.Msg) { m.Answers = slices.Repeat(m.Answers, 65536) }),
		of(func(m *api.Msg) { m.Authority = slices.Repeat(m.Authority, 65536) }), of(func(m *api.Msg) { m.Extra = slices.Repeat(m.Extra, 65536) }),
	} {
		if wire.May(m) {
			t.Errorf("%d: May", i)
		}
		if s, e := wire.Encode(m); s != "" || e != api.ErrForm {
			t.Errorf("%d: %d bytes, %v", i, len(s), e)
		}
		if n, e := wire.Size(m); n != 0 || e != api.ErrForm {
			t.Errorf("%d: %d %v", i, n, e)
		}
	}
	if m := of(func(m *api.Msg) { m.HasEdns, m.Edns.Options = false, []api.Option{} }); !wire.May(m) {
		t.Error("no options are none")
	}
}

// P7.1, P7.4: the greatest length.
func TestLength(t *testing.T) {
	of := func(n int) api.Msg {
		return api.Msg{Answers: []api.Record{{Name: "\x00", Type: 99, Data: strings.Repeat("a", n)}}}
	}
	if s, e := wire.Encode(of(65535 - 23)); len(s) != 65535 || e != api.OK {
		t.Error(len(s), e)
	} else if m, e := wire.Decode(s); e != api.OK || !same(m, of(65535-23)) {
		t.Error(e)
	} else if m, e := wire.Decode(s + "a"); e != api.ErrLong || !same(m, api.Msg{}) {
		t.Error(e)
	}
	form := of(70000)
	form.Op = 16
	if _, e := wire.Encode(form); e != api.ErrForm {
		t.Error(e)
	}
	soa := api.Record{Name: "\x00", Type: api.SOA, Data: "\x00\x00" + twenty}
	for i, m := range []api.Msg{
		of(65536 - 23), of(65535), of(65536), of(200000),
		{Questions: slices.Repeat([]api.Question{{Name: "\x00"}}, 65535)},
		{Extra: slices.Repeat([]api.Record{soa}, 65535)},
		{Answers: slices.Repeat([]api.Record{soa}, 65535)},
		{Authority: slices.Repeat([]api.Record{soa}, 65535)},
		{HasEdns: true, Edns: api.Edns{Options: []api.Option{{Data: strings.Repeat("a", 65513-4)}}}},
		{HasEdns: true, Edns: api.Edns{Options: []api.Option{{Data: strings.Repeat("a", 70000)}}}},
		{HasEdns: true, Edns: api.Edns{Options: slices.Repeat([]api.Option{{Data: "abc"}}, 10000)}},
	} {
		if !wire.May(m) {
			t.Errorf("%d: not May", i)
		}
		if s, e := wire.Encode(m); s != "" || e != api.ErrLong {
			t.Errorf("%d: %d bytes, %v", i, len(s), e)
		}
		if n, e := wire.Size(m); n != 0 || e != api.ErrLong {
			t.Errorf("%d: %d %v", i, n, e)
		}
	}
	full := api.Msg{HasEdns: true, Edns: api.Edns{Options: []api.Option{{Data: strings.Repeat("a", 65512-4)}}}}
	if s, e := wire.Encode(full); len(s) != 65535 || e != api.OK {
		t.Error(len(s), e)
	}
	if n, e := wire.Size(full); n != 65535 || e != api.OK {
		t.Error(n, e)
	}
}

// P7.1: the greatest length, where it is a name in data that reaches it.
func TestLengthOfNames(t *testing.T) {
	for _, kind := range []uint16{api.NS, api.MX, api.SOA, api.SRV, 99} {
		data := map[uint16]string{api.NS: ex, api.MX: "ab" + ex, api.SOA: ex + "\x02fx\x00" + twenty, api.SRV: "abcdef" + ex, 99: ex}[kind]
		room := 65535 - 12 - 11 - 11 - len(data)
		for n, want := range map[int]api.Errno{room - 1: api.OK, room: api.OK, room + 1: api.ErrLong, room + 2: api.ErrLong, room + len(data): api.ErrLong} {
			m := api.Msg{Answers: []api.Record{{Name: "\x00", Type: 99, Data: strings.Repeat("a", n)}}, Extra: []api.Record{{Name: "\x00", Type: kind, Data: data}}}
			s, e := wire.Encode(m)
			if e != want || e == api.OK && s != write(m, false) || e != api.OK && s != "" {
				t.Errorf("%d, %d: %d %v", kind, n-room, len(s), e)
			}
		}
	}
}

// P7.1: names beyond what a pointer reaches are not pointed to.
func TestFarNames(t *testing.T) {
	for _, filler := range []int{16340, 16350, 16354, 16355, 16356, 16357, 16358, 16359, 16360, 16361, 16362, 16370, 16400, 30000} {
		ns := api.Record{Name: "\x01a\x02ex\x00", Type: api.NS, Data: "\x01b\x02ex\x00"}
		m := api.Msg{Answers: []api.Record{{Name: "\x00", Type: 99, Data: strings.Repeat("a", filler)}, ns, ns, ns}}
		s, e := wire.Encode(m)
		if e != api.OK || s != write(m, false) {
			t.Fatalf("%d: %q %v", filler, s[filler:], e)
		}
		if back, e := wire.Decode(s); e != api.OK || !same(back, m) {
			t.Fatalf("%d: %v", filler, e)
		}
	}
}

const (
	none  = "\x00\x00\x00\x00"
	opt   = "\x00\x00\x29\x04\xD0\x00\x00\x00\x00\x00\x00"
	addr  = "\x00\x00\x01\x00\x01\x00\x00\x00\x05\x00\x04abcd"
	opted = "\x00\x00\x29\x04\xD0\x00\x00\x00\x00\x00\x06\x00\x0a\x00\x02ab"
)

func counts(n ...byte) string {
	b := []byte(none)
	for _, n := range n {
		b = append(b, 0, n)
	}
	return string(b)
}

// P7.2: what is refused, and why.
func TestDecodeErrors(t *testing.T) {
	question := ex + "\x00\x01\x00\x01"
	for _, x := range []struct {
		what, s string
		e       api.Errno
	}{
		{"nothing", "", api.ErrShort},
		{"11 bytes", none + none + "\x00\x00\x00", api.ErrShort},
		{"no question", counts(1, 0, 0, 0), api.ErrShort},
		{"no type", counts(1, 0, 0, 0) + ex + "\x00", api.ErrShort},
		{"no class", counts(1, 0, 0, 0) + ex + "\x00\x01\x00", api.ErrShort},
		{"a label that is none", counts(1, 0, 0, 0) + "\x40", api.ErrForm},
		{"a name that leads forwards", counts(1, 0, 0, 0) + "\xC0\x0C\x00\x01\x00\x01", api.ErrLoop},
		{"a name that is too long", counts(1, 0, 0, 0) + strings.Repeat("\x01a", 128) + "\x00\x00\x01\x00\x01", api.ErrLong},
		{"bytes after it", counts(0, 0, 0, 0) + "\x00", api.ErrLong},
		{"bytes after the question", counts(1, 0, 0, 0) + question + "\x00", api.ErrLong},
		{"no TTL", counts(0, 1, 0, 0) + "\x00\x00\x01\x00\x01\x00\x00\x00", api.ErrShort},
		{"no length", counts(0, 0, 1, 0) + "\x00\x00\x01\x00\x01\x00\x00\x00\x05\x00", api.ErrShort},
		{"no data", counts(0, 0, 0, 1) + addr[:len(addr)-1], api.ErrShort},
		{"data that is too short for its type", counts(0, 1, 0, 0) + "\x00\x00\x01\x00\x01\x00\x00\x00\x05\x00\x03abc", api.ErrShort},
		{"data that is too long for its type", counts(0, 1, 0, 0) + "\x00\x00\x01\x00\x01\x00\x00\x00\x05\x00\x05abcde", api.ErrForm},
		{"data that leads forwards", counts(0, 1, 0, 0) + "\x00\x00\x02\x00\x01\x00\x00\x00\x05\x00\x02\xC0\x17", api.ErrLoop},
		{"a name that goes on beyond its data", counts(0, 1, 0, 0) + "\x00\x00\x02\x00\x01\x00\x00\x00\x05\x00\x02\x01a\x00", api.ErrShort},
		{"an empty text", counts(0, 1, 0, 0) + "\x00\x00\x10\x00\x01\x00\x00\x00\x05\x00\x00", api.ErrShort},
		{"OPT among answers", counts(0, 1, 0, 0) + opt, api.ErrForm},
		{"OPT among authority records", counts(0, 0, 1, 0) + opt, api.ErrForm},
		{"OPT twice", counts(0, 0, 0, 2) + opt + opt, api.ErrForm},
		{"OPT twice, with another record between", counts(0, 0, 0, 3) + opt + addr + opt, api.ErrForm},
		{"OPT with a name", counts(0, 0, 0, 1) + "\x01a" + opt, api.ErrForm},
		{"OPT among answers with half an option", counts(0, 1, 0, 0) + opted[:10] + "\x01a", api.ErrForm},
		{"OPT with half an option", counts(0, 0, 0, 1) + opted[:10] + "\x05\x00\x0a\x00\x02a", api.ErrShort},
		{"OPT with an option of one byte", counts(0, 0, 0, 1) + opted[:10] + "\x01\x00", api.ErrShort},
		{"OPT without its data", counts(0, 0, 0, 1) + opted[:len(opted)-1], api.ErrShort},
		{"too many bytes", none + strings.Repeat("\x00", 65532), api.ErrLong},
		{"too many bytes, and no name", counts(1, 0, 0, 0) + strings.Repeat("\x40", 65524), api.ErrLong},
		{"no name, and no more bytes than may be", counts(1, 0, 0, 0) + strings.Repeat("\x40", 65523), api.ErrForm},
		{"the first error counts", counts(1, 1, 0, 0) + "\x40" + "\xC0\xff", api.ErrForm},
	} {
		if m, e := wire.Decode(x.s); e != x.e || !same(m, api.Msg{}) {
			t.Errorf("%s: %v %v", x.what, m, e)
		}
	}
}

// P7.2: an OPT record stands anywhere among the additional ones, under any name that is the root.
func TestOptAnywhere(t *testing.T) {
	plain := api.Record{Name: "\x00", Type: api.A, Class: 1, TTL: 5, Data: "abcd"}
	for _, s := range []string{
		counts(0, 0, 0, 3) + opted + addr + addr, counts(0, 0, 0, 3) + addr + opted + addr, counts(0, 0, 0, 3) + addr + addr + opted,
		counts(0, 0, 0, 3) + addr + "\xC0\x0C" + opted[1:] + addr,
	} {
		m, e := wire.Decode(s)
		want := api.Msg{Extra: []api.Record{plain, plain}, HasEdns: true, Edns: api.Edns{Size: 1232, Options: []api.Option{{Code: 10, Data: "ab"}}}}
		if e != api.OK || !same(m, want) {
			t.Errorf("%q: %v %v", s, m, e)
		}
		if back, e := wire.Encode(m); e != api.OK || back != counts(0, 0, 0, 3)+addr+addr+opted {
			t.Errorf("%q: %v", back, e)
		}
	}
	for _, l := range [][]byte{{0, 1, 0, 1}, {0, 0, 1, 1}} {
		m, e := wire.Decode(counts(l...) + addr + opt)
		if e != api.OK || len(m.Extra) != 0 || !m.HasEdns || m.Edns.Size != 1232 {
			t.Error(m, e)
		}
	}
}

// P7.2: names in the data of all six types may be compressed, also those that are not when written.
func TestCompressedData(t *testing.T) {
	for _, x := range []struct {
		kind         byte
		before, want string
	}{
		{2, "", ex}, {5, "", ex}, {12, "", ex}, {15, "ab", "ab" + ex}, {33, "abcdef", "abcdef" + ex},
	} {
		s := counts(1, 1, 0, 0) + ex + "\x00\x01\x00\x01" + "\xC0\x0C\x00" + string([]byte{x.kind}) + "\x00\x01\x00\x00\x00\x09\x00" + string([]byte{byte(len(x.before) + 2)}) + x.before + "\xC0\x0C"
		m, e := wire.Decode(s)
		if e != api.OK || len(m.Answers) != 1 || m.Answers[0] != (api.Record{Name: ex, Type: uint16(x.kind), Class: 1, TTL: 9, Data: x.want}) {
			t.Errorf("%d: %v %v", x.kind, m, e)
		}
	}
	s := counts(1, 1, 0, 0) + ex + "\x00\x01\x00\x01" + "\xC0\x0C\x00\x06\x00\x01\x00\x00\x00\x09\x00\x18" + "\xC0\x0C\xC0\x20" + twenty
	if m, e := wire.Decode(s); e != api.OK || m.Answers[0].Data != ex+ex+twenty {
		t.Error(m, e)
	}
}

// P7.2, P7.3: a message whose own encoding would be too long is none.
func TestOwnEncodingTooLong(t *testing.T) {
	of := func(n int) string {
		label := strings.Repeat("\x3f"+strings.Repeat("a", 63), 3) + "\x3d" + strings.Repeat("b", 61) + "\x00"
		s := counts(1) + "\x00" + string([]byte{byte(n)}) + none + label + "\x00\x01\x00\x01"
		for range n {
			s += "\xC0\x0C\x00\x21\x00\x01\x00\x00\x00\x00\x00\x08" + "\x00\x01\x02\x03\x04\x05\xC0\x0C"
		}
		return s
	}
	// Each such record has 273 bytes when it is written: 12 + 259 + 239 * 273 is 65518.
	m, e := wire.Decode(of(239))
	if e != api.OK || len(m.Answers) != 239 {
		t.Error(len(m.Answers), e)
	}
	if n, e := wire.Size(m); n != 65518 || e != api.OK {
		t.Error(n, e)
	}
	if m, e := wire.Decode(of(240)); e != api.ErrLong || !same(m, api.Msg{}) {
		t.Error(len(m.Answers), e)
	}
}

// P7.3: whatever is read is valid, and its encoding is read as it.
func TestDecodeAny(t *testing.T) {
	r := rand.New(rand.NewSource(3))
	good := 0
	for range 40000 {
		s, _ := wire.Encode(random(r))
		b := []byte(s)
		for range r.Intn(3) {
			i := r.Intn(len(b))
			switch r.Intn(4) {
			case 0:
				b[i] = byte(r.Intn(256))
			case 1:
				b[i] = "\x00\x01\x02\x06\x0f\x10\x21\x29\xC0\x0C"[r.Intn(10)]
			case 2:
				b = append(b[:i:i], b[min(i+2, len(b)):]...)
			default:
				b = append(b[:i:i], append([]byte{0xC0, 0x0C}, b[i:]...)...)
			}
			if len(b) == 0 {
				break
			}
		}
		m, e := wire.Decode(string(b))
		if e != api.OK {
			if !same(m, api.Msg{}) {
				t.Fatal(m, e)
			}
			continue
		}
		good++
		if !wire.May(m) {
			t.Fatalf("%q: %v is not valid", b, m)
		}
		own, e := wire.Encode(m)
		if e != api.OK || own != write(m, false) {
			t.Fatalf("%q: %q %v", b, own, e)
		}
		if again, e := wire.Decode(own); e != api.OK || !same(again, m) {
			t.Fatalf("%q: %v %v", own, again, e)
		}
	}
	if good < 10000 {
		t.Error(good)
	}
}

// P7.1: sameness is of all parts.
func TestSame(t *testing.T) {
	of := func() api.Msg {
		rec := []api.Record{{Name: ex, Type: 1, Class: 2, TTL: 3, Data: "abcd"}, {Name: ex}}
		return api.Msg{Head: api.Head{ID: 1, QR: true, Op: 2, AA: true, TC: true, RD: true, RA: true, Z: true, AD: true, CD: true, Code: 3}, Questions: []api.Question{{Name: ex, Type: 1, Class: 2}},
			Answers: slices.Clone(rec), Authority: slices.Clone(rec), Extra: slices.Clone(rec), HasEdns: true, Edns: api.Edns{Size: 1, Options: []api.Option{{Code: 1}}}}
	}
	if !wire.Same(of(), of()) || !wire.Same(api.Msg{}, api.Msg{Questions: []api.Question{}, Answers: []api.Record{}, Authority: []api.Record{}, Extra: []api.Record{}, Edns: api.Edns{Options: []api.Option{}}}) {
		t.Error("not the same")
	}
	for i, change := range []func(m *api.Msg){
		func(m *api.Msg) { m.ID++ }, func(m *api.Msg) { m.QR = false }, func(m *api.Msg) { m.Op++ }, func(m *api.Msg) { m.AA = false }, func(m *api.Msg) { m.TC = false },
		func(m *api.Msg) { m.RD = false }, func(m *api.Msg) { m.RA = false }, func(m *api.Msg) { m.Z = false }, func(m *api.Msg) { m.AD = false }, func(m *api.Msg) { m.CD = false },
		func(m *api.Msg) { m.Code++ }, func(m *api.Msg) { m.Questions[0].Name = "\x02EX\x00" }, func(m *api.Msg) { m.Questions[0].Type++ }, func(m *api.Msg) { m.Questions[0].Class++ },
		func(m *api.Msg) { m.Questions = nil }, func(m *api.Msg) { m.Answers[0].Name = "\x00" }, func(m *api.Msg) { m.Answers[0].Type++ }, func(m *api.Msg) { m.Answers[0].Class++ },
		func(m *api.Msg) { m.Answers[1].TTL++ }, func(m *api.Msg) { m.Answers[0].Data = "" }, func(m *api.Msg) { m.Authority[0].TTL++ }, func(m *api.Msg) { m.Extra[0].TTL++ },
		func(m *api.Msg) { m.Answers = m.Answers[:1] }, func(m *api.Msg) { m.Authority = nil }, func(m *api.Msg) { m.Extra = m.Extra[:1] }, func(m *api.Msg) { m.HasEdns = false },
		func(m *api.Msg) { m.Edns.Size++ }, func(m *api.Msg) { m.Edns.Options[0].Code++ }, func(m *api.Msg) { m.Edns.Options = nil },
		func(m *api.Msg) { m.Answers[0], m.Answers[1] = m.Answers[1], m.Answers[0] },
	} {
		m := of()
		change(&m)
		if wire.Same(m, of()) || wire.Same(of(), m) {
			t.Error(i)
		}
	}
}

// R3: arguments stay, and results are new memory.
func TestNewMemory(t *testing.T) {
	m := random(rand.New(rand.NewSource(9)))
	before := write(m, false)
	wire.Encode(m)
	wire.Size(m)
	wire.May(m)
	if write(m, false) != before {
		t.Error("changed")
	}
	s := counts(1, 1, 0, 1) + ex + "\x00\x01\x00\x01" + addr + opted
	x, _ := wire.Decode(s)
	y, _ := wire.Decode(s)
	x.Questions[0].Type, x.Answers[0].TTL, x.Edns.Options[0].Code = 77, 77, 77
	if y.Questions[0].Type != 1 || y.Answers[0].TTL != 5 || y.Edns.Options[0].Code != 10 {
		t.Error(y)
	}
}
