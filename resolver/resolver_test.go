package resolver_test

import (
	"math/rand"
	"slices"
	"strconv"
	"strings"
	"testing"

	"hustings/api"
	"hustings/chain"
	"hustings/heard"
	"hustings/name"
	"hustings/resolver"
	"hustings/rrset"
	"hustings/soa"
	"hustings/verdict"
	"hustings/wire"
)

func named(s string) string {
	n, e := name.Parse(s)
	if e != api.OK {
		panic(s)
	}
	return n
}

func rec(at string, kind uint16, ttl uint32, data string) api.Record {
	return api.Record{Name: named(at), Type: kind, Class: api.IN, TTL: ttl, Data: data}
}

func start(last byte) string {
	return "\x00\x00" + strings.Repeat("\x00", 19) + string([]byte{last})
}

func example() []api.Record {
	return []api.Record{rec("www.ex.", api.CNAME, 9, named("a.ex.")), rec("a.ex.", api.A, 5, "\x0a\x00\x00\x01"), rec("ex.", api.SOA, 7, start(3))}
}

func of(t *testing.T, l []api.Record) *resolver.Resolver {
	t.Helper()
	r, e := resolver.New(l)
	if e != api.OK {
		t.Fatal(e)
	}
	return r
}

func encode(t *testing.T, m api.Msg) string {
	t.Helper()
	s, e := wire.Encode(m)
	if e != api.OK {
		t.Fatal(e)
	}
	return s
}

func decode(t *testing.T, s string) api.Msg {
	t.Helper()
	m, e := wire.Decode(s)
	if e != api.OK {
		t.Fatalf("%q: %v", s, e)
	}
	return m
}

func asking(n string, kind uint16) api.Msg {
	return api.Msg{Head: api.Head{ID: 7, RD: true}, Questions: []api.Question{{Name: named(n), Type: kind, Class: api.IN}}}
}

func replied(t *testing.T, r *resolver.Resolver, m api.Msg) api.Msg {
	t.Helper()
	return decode(t, r.Answer(encode(t, m)))
}

// P30.1: the chapter's examples.
func TestExample(t *testing.T) {
	r := of(t, example())
	query := "\x00\x07\x01\x00\x00\x01\x00\x00\x00\x00\x00\x00\x03www\x02ex\x00\x00\x01\x00\x01"
	want := "\x00\x07\x81\x80\x00\x01\x00\x02\x00\x00\x00\x00\x03\x77\x77\x77\x02\x65\x78\x00\x00\x01\x00\x01" +
		"\xC0\x0C\x00\x05\x00\x01\x00\x00\x00\x09\x00\x04\x01\x61\xC0\x10" + "\xC0\x24\x00\x01\x00\x01\x00\x00\x00\x05\x00\x04\x0A\x00\x00\x01"
	if s := r.Answer(query); s != want {
		t.Errorf("%q", s)
	}
	l := example()
	for _, x := range []struct {
		n                  string
		kind               uint16
		code               uint8
		answers, authority []api.Record
	}{
		{"b.ex.", api.A, 3, nil, l[2:]}, {"www.ex.", api.AAAA, 0, l[:1], l[2:]}, {"ex.", api.A, 0, nil, l[2:]}, {".", api.A, 0, nil, nil}, {"c.", api.A, 3, nil, nil},
		{"www.ex.", api.CNAME, 0, l[:1], nil}, {"ex.", api.SOA, 0, l[2:], nil}, {"x.a.ex.", api.A, 3, nil, l[2:]}, {"A.EX.", api.A, 0, l[1:2], nil},
	} {
		q := asking(x.n, x.kind)
		got := replied(t, r, q)
		want := api.Msg{Head: api.Head{ID: 7, QR: true, RD: true, RA: true, Code: x.code}, Questions: q.Questions, Answers: x.answers, Authority: x.authority}
		if !wire.Same(got, want) {
			t.Errorf("%s %d: %+v", x.n, x.kind, got)
		}
	}
}

// P30.1, P30.2: what is refused, nil, and a zero Resolver.
func TestRefused(t *testing.T) {
	bad := api.Record{Name: named("a."), Type: api.A, Class: 1, Data: "abc"}
	one := rec("a.", 99, 1, "")
	for i, x := range []struct {
		l []api.Record
		e api.Errno
	}{
		{[]api.Record{one, bad}, api.ErrArg}, {[]api.Record{{Name: "a", Type: 1, Data: "abcd"}}, api.ErrArg}, {[]api.Record{{Name: "\x00", Type: api.OPT}}, api.ErrArg},
		{slices.Repeat([]api.Record{one}, 65536), api.ErrLong}, {append(slices.Repeat([]api.Record{one}, 65536), bad), api.ErrArg}, {slices.Repeat([]api.Record{one}, 65535), api.OK}, {nil, api.OK},
	} {
		if r, e := resolver.New(x.l); e != x.e || (r == nil) != (e != api.OK) {
			t.Errorf("%d: %v", i, e)
		}
	}
	var none *resolver.Resolver
	q := asking("a.", api.A)
	if none.Answer(encode(t, q)) != "" || len(none.Records()) != 0 {
		t.Error("nil")
	}
	var zero resolver.Resolver
	for _, r := range []*resolver.Resolver{&zero, of(t, nil)} {
		if m := replied(t, r, q); m.Code != 3 || len(m.Answers)+len(m.Authority) != 0 || len(r.Records()) != 0 {
			t.Error(m)
		}
	}
}

// P30.6: which bytes are queries.
func TestQueries(t *testing.T) {
	r := of(t, example())
	with := func(change func(m *api.Msg)) string {
		m := asking("a.ex.", api.A)
		change(&m)
		return encode(t, m)
	}
	for i, s := range []string{
		"", strings.Repeat("\x00", 11), strings.Repeat("\x00", 12), with(func(m *api.Msg) { m.QR = true }), with(func(m *api.Msg) { m.Op = 1 }), with(func(m *api.Msg) { m.Questions = nil }),
		with(func(m *api.Msg) { m.Questions = append(m.Questions, m.Questions[0]) }), with(func(m *api.Msg) {}) + "\x00", with(func(m *api.Msg) {})[:20],
	} {
		if got := r.Answer(s); got != "" {
			t.Errorf("%d: %q", i, got)
		}
	}
	// All else in a query has no part in the reply.
	s := with(func(m *api.Msg) {
		m.AA, m.TC, m.RD, m.RA, m.Z, m.AD, m.CD, m.Code = true, true, false, true, true, true, true, 9
		m.Answers = example()
		m.HasEdns, m.Edns = true, api.Edns{Size: 99, Ext: 4, Version: 5, Flags: 6, Options: []api.Option{{Code: 1}}}
	})
	want := api.Msg{Head: api.Head{ID: 7, QR: true, RA: true}, Questions: asking("a.ex.", 1).Questions, Answers: example()[1:2], HasEdns: true, Edns: api.Edns{Size: api.MaxReply}}
	if got := decode(t, r.Answer(s)); !wire.Same(got, want) {
		t.Errorf("%+v", got)
	}
}

func many(n int) []api.Record {
	var l []api.Record
	for i := range n {
		l = append(l, rec("ex.", api.A, 5, "\x0a\x00"+string([]byte{byte(i >> 8), byte(i)})))
	}
	return l
}

// P30.1: size limits.
func TestSize(t *testing.T) {
	for _, x := range []struct {
		n    int
		edns bool
		size uint16
		cut  bool
	}{
		{30, false, 0, false}, {31, false, 0, true}, {31, true, 0, true}, {30, true, 0, false}, {30, true, 600, false}, {31, true, 600, false}, {31, true, 526, true}, {31, true, 527, false}, {75, true, 1231, false}, {75, true, 1230, true}, {76, true, 1231, true}, {300, true, 65535, false}, {5000, true, 65535, true},
		{4000, true, 65535, false}, {4094, true, 65535, false}, {4095, true, 65535, true},
	} {
		m := asking("ex.", api.A)
		m.HasEdns, m.Edns.Size = x.edns, x.size
		got := replied(t, of(t, many(x.n)), m)
		if got.TC != x.cut || got.Code != 0 || !x.cut && len(got.Answers) != x.n || x.cut && len(got.Answers) != 0 {
			t.Errorf("%v: %v %d", x, got.TC, len(got.Answers))
		}
	}
	var l []api.Record
	for range 30 {
		l = append(l, rec("ex.", api.SOA, 1, start(1)))
	}
	for i := range 30 {
		l = append(l, rec("www.ex.", api.CNAME, 1, named("a"+strconv.Itoa(i)+".")))
	}
	if got := replied(t, of(t, l), asking("www.ex.", api.A)); got.Code != api.ServFail || len(got.Answers)+len(got.Authority) != 0 || got.TC {
		t.Error(got)
	}
	long := func(c string) string { return strings.Repeat("\x3f"+strings.Repeat(c, 63), 3) + "\x00" }
	nx := of(t, []api.Record{{Name: "\x00", Type: api.SOA, Class: api.IN, Data: long("a") + long("b") + strings.Repeat("x", 20)}})
	for size, cut := range map[uint16]bool{512: true, 4096: false} {
		m := api.Msg{Questions: []api.Question{{Name: long("z"), Type: api.A, Class: api.IN}}, HasEdns: true, Edns: api.Edns{Size: size}}
		if got := replied(t, nx, m); got.Code != api.NXDomain || got.TC != cut || len(got.Authority) == 0 != cut {
			t.Errorf("%d: %+v", size, got)
		}
	}
}

// P30.1, P30.3: errors of the chain and of the SOA.
func TestServFail(t *testing.T) {
	loop := []api.Record{rec("a.", api.CNAME, 1, named("b.")), rec("b.", api.CNAME, 1, named("a.")), rec("c.", api.A, 1, "abcd")}
	two := []api.Record{rec("ex.", api.SOA, 1, start(1)), rec("ex.", api.SOA, 1, start(2)), rec("a.ex.", api.A, 1, "abcd"), rec("b.ex.", api.CNAME, 1, named("c.ex."))}
	for _, x := range []struct {
		l    []api.Record
		n    string
		kind uint16
		code uint8
	}{
		{loop, "a.", api.A, 2}, {loop, "a.", api.CNAME, 0}, {loop, "c.", api.A, 0}, {two, "a.ex.", api.A, 0}, {two, "a.ex.", api.AAAA, 2}, {two, "b.ex.", api.A, 2}, {two, "z.ex.", api.A, 2}, {two, "z.", api.A, 3}, {two, "ex.", api.SOA, 0},
	} {
		got := replied(t, of(t, x.l), asking(x.n, x.kind))
		if got.Code != x.code || x.code == 2 && len(got.Answers)+len(got.Authority) != 0 || got.TC {
			t.Errorf("%s %d: %+v", x.n, x.kind, got)
		}
	}
}

var places = []string{".", "ex.", "a.ex.", "b.ex.", "c.b.ex.", "d."}

func random(r *rand.Rand) []api.Record {
	var l []api.Record
	for range r.Intn(8) {
		at := places[r.Intn(6)]
		if r.Intn(4) == 0 {
			at = strings.ToUpper(at)
		}
		x := rec(at, api.A, uint32(r.Intn(9)), "\x0a\x00\x00"+string([]byte{byte(r.Intn(3))}))
		switch r.Intn(4) {
		case 0:
			x.Type, x.Data = api.CNAME, named(places[r.Intn(6)])
		case 1:
			x.Type, x.Data = api.SOA, start(byte(r.Intn(2)))
		}
		x.Class = uint16(1 + r.Intn(6)/5)
		if r.Intn(12) == 0 {
			x.TTL = 1 << 31
		}
		l = append(l, x)
	}
	return l
}

// P30.2 to P30.7: any records and questions.
func TestAny(t *testing.T) {
	r := rand.New(rand.NewSource(1))
	seen := map[uint8]int{}
	for range 5000 {
		l := random(r)
		x := of(t, l)
		sets := rrset.Group(l)
		all := []api.Record{}
		for _, s := range sets {
			all = append(all, rrset.Records(s)...)
		}
		if !slices.Equal(x.Records(), all) {
			t.Fatal(x.Records(), all)
		}
		q := api.Question{Name: named([]string{".", "ex.", "A.ex.", "b.ex.", "x.b.ex.", "d.", "e.d."}[r.Intn(7)]), Type: []uint16{api.A, api.CNAME, api.SOA, api.AAAA}[r.Intn(4)], Class: uint16(1 + r.Intn(6)/5)}
		query, _ := heard.Query(q, uint16(r.Intn(1<<16)), 1232)
		s := x.Answer(query)
		m := decode(t, s)
		seen[m.Code]++
		if m.ID != uint16(query[0])<<8|uint16(query[1]) || !slices.Equal(m.Questions, decode(t, query).Questions) || !m.QR || len(s) > 1232 {
			t.Fatal(m)
		}
		truth(t, q, m, s, sets, all)
		shuffled := append(slices.Clone(l), l...)
		r.Shuffle(len(shuffled), func(i, j int) { shuffled[i], shuffled[j] = shuffled[j], shuffled[i] })
		for i := range shuffled {
			if r.Intn(2) == 0 {
				shuffled[i].Name = strings.ToUpper(shuffled[i].Name)
			}
		}
		if again := of(t, shuffled).Answer(query); again != s {
			t.Fatalf("another order: %q, not %q", again, s)
		}
		other := slices.Clone(l)
		other = append(other, api.Record{Name: q.Name, Type: q.Type, Class: 9, Data: map[uint16]string{api.A: "abcd", api.CNAME: "\x00", api.SOA: start(9), api.AAAA: strings.Repeat("a", 16)}[q.Type]})
		if again := of(t, other).Answer(query); again != s {
			t.Fatal("another class changes something")
		}
	}
	if seen[0] < 300 || seen[2] < 100 || seen[3] < 300 {
		t.Error(seen)
	}
}

// truth holds a reply against the chapter's words.
func truth(t *testing.T, q api.Question, m api.Msg, s string, sets []api.Set, all []api.Record) {
	t.Helper()
	_, at, end, e := chain.Follow(q, sets)
	_, _, e2 := soa.Find(sets, at, q.Class)
	if fails := e != api.OK || len(end) == 0 && e2 != api.OK; fails != (m.Code == api.ServFail) {
		t.Fatal(q, sets, m)
	}
	reply := heard.Look(q, s)
	if m.Code == api.ServFail {
		if reply.Kind != heard.Pass || len(m.Answers)+len(m.Authority) > 0 {
			t.Fatal(m)
		}
		return
	}
	nothing := !slices.ContainsFunc(sets, func(x api.Set) bool { return x.Class == q.Class && name.Within(x.Name, at) })
	if (m.Code == api.NXDomain) != (len(end) == 0 && nothing) {
		t.Fatal(q, sets, m)
	}
	v, time, e := verdict.Of(q, api.Msg{Head: api.Head{Code: m.Code}, Answers: all, Authority: all})
	if e != api.OK || reply.Kind != heard.Vote || !verdict.Same(v, reply.Verdict) || time != reply.Time {
		t.Fatal(q, sets, reply, v, time, e)
	}
}

// R3: new memory.
func TestNewMemory(t *testing.T) {
	l := example()
	r := of(t, l)
	l[0].Name, l[1].Data = "changed", "changed"
	r.Records()[0].Name = "changed"
	want := rrset.Group(example())
	var all []api.Record
	for _, s := range want {
		all = append(all, rrset.Records(s)...)
	}
	if !slices.Equal(r.Records(), all) {
		t.Error(r.Records())
	}
}
