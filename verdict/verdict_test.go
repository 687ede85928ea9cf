package verdict_test

import (
	"math/rand"
	"reflect"
	"slices"
	"strconv"
	"strings"
	"testing"

	"hustings/api"
	"hustings/name"
	"hustings/rrset"
	"hustings/verdict"
)

func named(s string) string {
	n, e := name.Parse(s)
	if e != api.OK {
		panic(s)
	}
	return n
}

func ask(s string, kind uint16) api.Question {
	return api.Question{Name: named(s), Type: kind, Class: api.IN}
}

func cname(from, to string, ttl uint32) api.Record {
	return api.Record{Name: named(from), Type: api.CNAME, Class: api.IN, TTL: ttl, Data: named(to)}
}

func addr(at string, last byte, ttl uint32) api.Record {
	return api.Record{Name: named(at), Type: api.A, Class: api.IN, TTL: ttl, Data: "\x0a\x00\x00" + string([]byte{last})}
}

func soa(at string, ttl, last uint32) api.Record {
	data := "\x00\x00" + strings.Repeat("\x01", 16) + string([]byte{byte(last >> 24), byte(last >> 16), byte(last >> 8), byte(last)})
	return api.Record{Name: named(at), Type: api.SOA, Class: api.IN, TTL: ttl, Data: data}
}

func msg(code uint8, answers, authority []api.Record) api.Msg {
	return api.Msg{Head: api.Head{Code: code}, Answers: answers, Authority: authority}
}

func rec(l ...api.Record) []api.Record { return l }

// P11.1: the chapter's example, whole.
func TestExample(t *testing.T) {
	v, time, e := verdict.Of(ask("www.ex.", api.A), msg(0, rec(addr("a.ex.", 1, 5), cname("WWW.ex.", "A.ex.", 9)), rec(soa("ex.", 1, 1))))
	want := api.Verdict{Sets: []api.Set{
		{Name: named("www.ex."), Type: api.CNAME, Class: api.IN, Data: []string{named("a.ex.")}},
		{Name: named("a.ex."), Type: api.A, Class: api.IN, Data: []string{"\x0a\x00\x00\x01"}},
	}}
	if e != api.OK || time != 5 || !verdict.Same(v, want) || !reflect.DeepEqual(v.Sets, want.Sets) || len(v.Soa) != 0 {
		t.Error(v, time, e)
	}
	v, time, e = verdict.Of(ask("a.ex.", api.A), msg(3, nil, rec(soa("ex.", 9, 3))))
	if e != api.OK || time != 3 || v.Code != 3 || len(v.Sets) != 0 || len(v.Soa) != 1 || v.Soa[0].TTL != 0 || v.Soa[0].Name != named("ex.") || v.Soa[0].Data[0] != soa("ex.", 0, 3).Data {
		t.Error(v, time, e)
	}
	v, time, e = verdict.Of(ask("a.ex.", api.A), msg(3, nil, nil))
	if e != api.OK || time != 0 || !verdict.Same(v, api.Verdict{Code: 3}) {
		t.Error(v, time, e)
	}
	if k := verdict.Key(api.Verdict{Code: 3}); k != "\x03\x00\x00" {
		t.Errorf("%q", k)
	}
}

func long(n int) []api.Record {
	var l []api.Record
	for i := range n {
		l = append(l, cname("n"+strconv.Itoa(i)+".", "n"+strconv.Itoa(i+1)+".", 9))
	}
	return l
}

// P11.1: errors, in their order.
func TestErrors(t *testing.T) {
	two := rec(soa("ex.", 1, 1), soa("ex.", 1, 2))
	loop := rec(cname("a.ex.", "a.ex.", 9))
	form := rec(cname("a.ex.", "b.ex.", 9), addr("a.ex.", 1, 9))
	q := ask("a.ex.", api.A)
	for i, x := range []struct {
		q api.Question
		m api.Msg
		e api.Errno
	}{
		{q, msg(2, nil, nil), api.ErrArg}, {q, msg(1, nil, nil), api.ErrArg}, {q, msg(5, loop, nil), api.ErrArg}, {q, msg(16, nil, nil), api.ErrArg}, {q, msg(255, nil, nil), api.ErrArg},
		{api.Question{Name: "a"}, msg(0, loop, nil), api.ErrArg}, {api.Question{}, msg(0, nil, nil), api.ErrArg},
		{q, msg(0, loop, two), api.ErrLoop}, {q, msg(3, loop, nil), api.ErrLoop}, {q, msg(0, form, nil), api.ErrForm}, {ask("n0.", api.A), msg(0, long(9), two), api.ErrLong},
		{q, msg(3, rec(addr("a.ex.", 1, 9)), nil), api.ErrForm}, {q, msg(3, rec(cname("a.ex.", "b.ex.", 9), addr("b.ex.", 1, 9)), nil), api.ErrForm},
		{ask("a.ex.", api.CNAME), msg(3, loop, nil), api.ErrForm}, {q, msg(0, nil, two), api.ErrForm}, {q, msg(3, nil, two), api.ErrForm},
		// With an end it does not matter which SOA there is.
		{q, msg(0, rec(addr("a.ex.", 1, 9)), two), api.OK}, {q, msg(3, rec(cname("a.ex.", "b.ex.", 9)), nil), api.OK}, {ask("n0.", api.A), msg(0, long(8), nil), api.OK},
		// Another SOA is not looked at: of another zone, of another class, or among the answers.
		{ask("a.com.", api.A), msg(0, nil, two), api.OK}, {q, msg(0, two, nil), api.OK}, {api.Question{Name: named("a.ex."), Type: 1, Class: 2}, msg(0, nil, two), api.OK},
	} {
		v, time, e := verdict.Of(x.q, x.m)
		if e != x.e || e != api.OK && (time != 0 || !verdict.Same(v, api.Verdict{})) {
			t.Errorf("%d: %v %d %v", i, v, time, e)
		}
	}
}

// P11.1, P11.5: times.
func TestTimes(t *testing.T) {
	const over = 1 << 31
	for i, x := range []struct {
		q    api.Question
		m    api.Msg
		want uint32
	}{
		{ask("a.ex.", api.A), msg(0, rec(addr("a.ex.", 1, 9), addr("a.ex.", 2, 4)), nil), 4},
		{ask("a.ex.", api.A), msg(0, rec(addr("a.ex.", 1, over), addr("a.ex.", 2, 4)), nil), 0},
		{ask("a.ex.", api.A), msg(0, rec(addr("a.ex.", 1, over-1)), nil), over - 1},
		{ask("a.ex.", api.A), msg(0, rec(cname("a.ex.", "b.ex.", 3), addr("b.ex.", 1, 9)), nil), 3},
		{ask("a.ex.", api.A), msg(0, rec(cname("a.ex.", "b.ex.", 9), addr("b.ex.", 1, 3), addr("c.ex.", 1, 1)), rec(soa("ex.", 1, 1))), 3},
		{ask("a.ex.", api.A), msg(0, rec(cname("a.ex.", "b.ex.", 9)), rec(soa("ex.", 5, 7))), 5},
		{ask("a.ex.", api.A), msg(0, rec(cname("a.ex.", "b.ex.", 4)), rec(soa("ex.", 5, 7))), 4},
		{ask("a.ex.", api.A), msg(0, rec(cname("a.ex.", "b.ex.", 9)), nil), 0},
		{ask("a.ex.", api.A), msg(0, rec(cname("a.ex.", "b.com.", 9)), rec(soa("ex.", 5, 7))), 0},
		{ask("a.ex.", api.A), msg(0, rec(cname("a.ex.", "b.com.", 9)), rec(soa("com.", 5, 7))), 5},
		{ask("a.ex.", api.A), msg(0, nil, rec(soa("ex.", 9, over), soa(".", 1, 1))), 0},
		{ask("a.ex.", api.A), msg(0, nil, rec(soa("ex.", 9, 8), soa(".", 1, 1))), 8},
		{ask("a.ex.", api.A), msg(0, nil, nil), 0},
		{ask("a.ex.", api.SOA), msg(0, rec(soa("a.ex.", 9, 1)), nil), 9},
	} {
		if _, time, e := verdict.Of(x.q, x.m); e != api.OK || time != x.want {
			t.Errorf("%d: %d %v", i, time, e)
		}
	}
}

// P11.2: keys, by their bytes.
func TestKey(t *testing.T) {
	v := api.Verdict{Code: 0, Sets: []api.Set{
		{Name: named("a."), Type: 0x0102, Class: 0x0304, TTL: 9, Data: []string{"xyz", ""}}, {Name: named("."), Type: 5, Class: 1},
	}, Soa: []api.Set{{Name: named("b."), Type: 6, Class: 1, Data: []string{strings.Repeat("s", 258)}}}}
	want := "\x00\x02\x01a\x00\x01\x02\x03\x04\x00\x02\x00\x03xyz\x00\x00\x00\x00\x05\x00\x01\x00\x00\x01\x01b\x00\x00\x06\x00\x01\x00\x01\x01\x02" + strings.Repeat("s", 258)
	if k := verdict.Key(v); k != want {
		t.Errorf("%q, not %q", k, want)
	}
	if k := verdict.Key(api.Verdict{}); k != "\x00\x00\x00" {
		t.Errorf("%q", k)
	}
}

// P11.2: sameness is of all parts.
func TestSame(t *testing.T) {
	of := func() api.Verdict {
		return api.Verdict{Code: 3, Sets: []api.Set{{Name: "a", Data: []string{"x"}}, {Name: "b"}}, Soa: []api.Set{{Name: "c", Data: []string{"y"}}}}
	}
	if !verdict.Same(of(), of()) || !verdict.Same(api.Verdict{}, api.Verdict{Sets: []api.Set{}, Soa: []api.Set{}}) {
		t.Error("not the same")
	}
	for i, change := range []func(v *api.Verdict){
		func(v *api.Verdict) { v.Code = 0 }, func(v *api.Verdict) { v.Sets[0].Name = "z" }, func(v *api.Verdict) { v.Sets[0].Data[0] = "z" }, func(v *api.Verdict) { v.Sets[1].TTL++ },
		func(v *api.Verdict) { v.Sets = v.Sets[:1] }, func(v *api.Verdict) { v.Sets[0], v.Sets[1] = v.Sets[1], v.Sets[0] }, func(v *api.Verdict) { v.Soa = nil }, func(v *api.Verdict) { v.Soa[0].Type++ },
		func(v *api.Verdict) { v.Soa[0].Data[0] = "z" }, func(v *api.Verdict) { v.Soa[0].TTL++ }, func(v *api.Verdict) { v.Sets[0].Class++ }, func(v *api.Verdict) { v.Soa, v.Sets = v.Sets, v.Soa },
	} {
		v := of()
		change(&v)
		if verdict.Same(v, of()) || verdict.Same(of(), v) {
			t.Error(i)
		}
	}
}

// P11.2: ends.
func TestEnd(t *testing.T) {
	sets := []api.Set{{Name: named("a."), Type: api.CNAME, Class: 1, Data: []string{named("b.")}}, {Name: named("b."), Type: api.A, Class: 1, Data: []string{"abcd"}}}
	if s, is := verdict.End(ask("a.", api.A), api.Verdict{Sets: sets}); !is || !reflect.DeepEqual(s, sets[1]) {
		t.Error(s, is)
	} else {
		s.Data[0] = "x"
		if sets[1].Data[0] != "abcd" {
			t.Error("shared")
		}
	}
	if s, is := verdict.End(ask("a.", api.CNAME), api.Verdict{Sets: sets[:1]}); !is || !reflect.DeepEqual(s, sets[0]) {
		t.Error(s, is)
	}
	for _, x := range []struct {
		kind uint16
		v    api.Verdict
	}{{api.A, api.Verdict{Sets: sets[:1]}}, {api.CNAME, api.Verdict{Sets: sets}}, {api.A, api.Verdict{}}, {api.A, api.Verdict{Soa: sets}}} {
		if s, is := verdict.End(ask("a.", x.kind), x.v); is || !rrset.Same(s, api.Set{}) {
			t.Error(x, s, is)
		}
	}
}

var places = []string{"a.ex.", "b.ex.", "A.ex.", "c.ex.", "ex.", "."}

func randomRecords(r *rand.Rand) (answers, authority []api.Record) {
	ttl := func() uint32 {
		if r.Intn(20) == 0 {
			return 1<<31 + uint32(r.Intn(2)) - 1
		}
		return uint32(r.Intn(9))
	}
	for range r.Intn(5) {
		x := addr(places[r.Intn(4)], byte(r.Intn(3)), ttl())
		if r.Intn(2) == 0 {
			x = cname(places[r.Intn(4)], places[r.Intn(4)], ttl())
		}
		answers = append(answers, x)
	}
	for range r.Intn(3) {
		authority = append(authority, soa(places[r.Intn(6)], ttl(), ttl()))
	}
	return answers, authority
}

func swapCase(s string) string {
	b := []byte(s)
	for i, c := range b {
		if c|0x20 >= 'a' && c|0x20 <= 'z' {
			b[i] ^= 0x20
		}
	}
	return string(b)
}

// varied tells the same in another manner.
func varied(r *rand.Rand, l []api.Record) []api.Record {
	out := slices.Clone(l)
	if len(l) > 0 {
		out = append(out, l[r.Intn(len(l))])
	}
	for i := range out {
		if r.Intn(2) == 0 {
			out[i].Name = swapCase(out[i].Name)
			if out[i].Type == api.CNAME {
				out[i].Data = swapCase(out[i].Data)
			}
		}
	}
	out = append(out, addr("z.ex.", 1, 0), api.Record{Name: "bad", Type: 1, Class: 1}, api.Record{Name: named("a.ex."), Type: api.A, Class: 2, Data: "abcd"}, api.Record{Name: named("a.ex."), Type: api.A, Class: 1, Data: "abc"})
	r.Shuffle(len(out), func(i, j int) { out[i], out[j] = out[j], out[i] })
	return out
}

// P11.3 to P11.6: any messages.
func TestAny(t *testing.T) {
	r := rand.New(rand.NewSource(1))
	var all []api.Verdict
	for range 4000 {
		answers, authority := randomRecords(r)
		m := msg(uint8(r.Intn(3)/2*3), answers, authority)
		q := ask(places[r.Intn(4)], []uint16{api.A, api.A, api.CNAME}[r.Intn(3)])
		v, time, e := verdict.Of(q, m)
		m2 := msg(m.Code, varied(r, answers), varied(r, authority))
		m2.Questions, m2.Extra, m2.QR, m2.ID = []api.Question{{}}, answers, true, 9
		q2 := q
		q2.Name = swapCase(q.Name)
		v2, time2, e2 := verdict.Of(q2, m2)
		if !verdict.Same(v, v2) || time != time2 || e != e2 {
			t.Fatalf("%v of %v: %v %d %v, and then %v %d %v", q, m, v, time, e, v2, time2, e2)
		}
		if e != api.OK {
			continue
		}
		all = append(all, v)
		checkParts(t, q, v, m, time)
		lower := slices.Clone(answers)
		for i := range lower {
			if r.Intn(2) == 0 && lower[i].TTL <= api.MaxTTL {
				lower[i].TTL = uint32(r.Intn(int(lower[i].TTL) + 1))
			}
		}
		if v3, time3, e3 := verdict.Of(q, msg(m.Code, lower, authority)); e3 != api.OK || !verdict.Same(v, v3) || time3 > time {
			t.Fatal(v3, time3, e3, time)
		}
	}
	for range 20000 {
		a, b := all[r.Intn(len(all))], all[r.Intn(len(all))]
		if is := identical(a, b); (verdict.Key(a) == verdict.Key(b)) != is || verdict.Same(a, b) != is {
			t.Fatal(a, b)
		}
	}
}

// identical holds two verdicts against each other, without the package under test.
func identical(a, b api.Verdict) bool {
	set := func(x, y api.Set) bool {
		return x.Name == y.Name && x.Type == y.Type && x.Class == y.Class && x.TTL == y.TTL && slices.Equal(x.Data, y.Data)
	}
	return a.Code == b.Code && slices.EqualFunc(a.Sets, b.Sets, set) && slices.EqualFunc(a.Soa, b.Soa, set)
}

func checkParts(t *testing.T, q api.Question, v api.Verdict, m api.Msg, time uint32) {
	t.Helper()
	_, end := verdict.End(q, v)
	if end && len(v.Soa) > 0 || len(v.Soa) > 1 || v.Code != m.Code || !end && len(v.Soa) == 0 && time != 0 {
		t.Fatal(v, time)
	}
	again := msg(v.Code, nil, nil)
	for _, s := range v.Sets {
		if s.TTL != 0 {
			t.Fatal(v)
		}
		again.Answers = append(again.Answers, rrset.Records(s)...)
		for _, x := range m.Answers {
			if time > 0 && name.Same(x.Name, s.Name) && x.Type == s.Type && x.Class == s.Class && time > x.TTL {
				t.Fatal(v, time, x)
			}
		}
	}
	for _, s := range v.Soa {
		if s.TTL != 0 {
			t.Fatal(v)
		}
		again.Authority = append(again.Authority, rrset.Records(s)...)
	}
	if v2, time2, e := verdict.Of(q, again); e != api.OK || !verdict.Same(v, v2) || time2 != 0 {
		t.Fatal(v, v2, time2, e)
	}
}
