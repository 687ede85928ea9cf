package merge_test

import (
	"math/rand"
	"slices"
	"testing"

	"hustings/api"
	"hustings/merge"
	"hustings/name"
	"hustings/tally"
	"hustings/verdict"
)

func named(s string) string {
	n, e := name.Parse(s)
	if e != api.OK {
		panic(s)
	}
	return n
}

func addr(last ...byte) []string {
	var l []string
	for _, b := range last {
		l = append(l, "\x0a\x00\x00"+string([]byte{b}))
	}
	return l
}

func set(at string, kind uint16, data ...string) api.Set {
	return api.Set{Name: named(at), Type: kind, Class: api.IN, Data: data}
}

var (
	www = api.Question{Name: named("www.ex."), Type: api.A, Class: api.IN}
	soa = set("ex.", api.SOA, "soa")
)

func vote(up int, time uint32, code uint8, sets ...api.Set) tally.Vote {
	v := tally.Vote{Up: up, Time: time, Verdict: api.Verdict{Code: code, Sets: sets}}
	return v
}

func same(a, b api.Verdict) bool {
	one := func(x, y api.Set) bool {
		return x.Name == y.Name && x.Type == y.Type && x.Class == y.Class && x.TTL == y.TTL && slices.Equal(x.Data, y.Data)
	}
	return a.Code == b.Code && slices.EqualFunc(a.Sets, b.Sets, one) && slices.EqualFunc(a.Soa, b.Soa, one)
}

// P23.1: the chapter's examples, and others.
func TestExamples(t *testing.T) {
	one, two := vote(1, 9, 0, set("www.ex.", api.A, addr(1)...)), vote(2, 5, 0, set("www.ex.", api.CNAME, named("a.cdn.")), set("a.cdn.", api.A, addr(2)...))
	both := api.Verdict{Sets: []api.Set{set("www.ex.", api.A, addr(1, 2)...)}}
	nx, nothing := vote(1, 7, 3), vote(0, 8, 0)
	nx.Verdict.Soa, nothing.Verdict.Soa = []api.Set{soa}, []api.Set{soa, soa}
	three := vote(4, 6, 0, set("www.ex.", api.A, addr(3, 1)...))
	slices.Sort(three.Verdict.Sets[0].Data)
	upper := www
	upper.Name = named("WWW.Ex.")
	cnames := api.Question{Name: named("www.ex."), Type: api.CNAME, Class: api.IN}
	for i, x := range []struct {
		q    api.Question
		l    []tally.Vote
		want api.Verdict
		time uint32
	}{
		{www, []tally.Vote{one, two}, both, 5},
		{upper, []tally.Vote{one, two}, both, 5},
		{www, []tally.Vote{nx, nothing}, nothing.Verdict, 7},
		{www, []tally.Vote{nothing, nx}, nothing.Verdict, 7},
		{www, []tally.Vote{nx, one}, api.Verdict{Sets: one.Verdict.Sets}, 7},
		{www, []tally.Vote{nothing, one}, api.Verdict{Sets: one.Verdict.Sets}, 8},
		{www, []tally.Vote{nothing, two}, api.Verdict{Sets: []api.Set{set("www.ex.", api.A, addr(2)...)}}, 5},
		{www, []tally.Vote{two}, two.Verdict, 5},
		{www, []tally.Vote{two, {Up: 0, Time: 3, Verdict: two.Verdict}}, two.Verdict, 3},
		{www, []tally.Vote{nx}, nx.Verdict, 7},
		{www, []tally.Vote{{Up: 3, Time: 2, Verdict: nx.Verdict}, nx, {Up: 5, Time: 4, Verdict: nx.Verdict}}, nx.Verdict, 2},
		{www, []tally.Vote{one, two, three, nx}, api.Verdict{Sets: []api.Set{set("www.ex.", api.A, addr(1, 2, 3)...)}}, 5},
		{www, []tally.Vote{one, {Up: 8, Time: 1, Verdict: one.Verdict}, three}, api.Verdict{Sets: []api.Set{set("www.ex.", api.A, addr(1, 3)...)}}, 1},
		{cnames, []tally.Vote{vote(1, 1, 0, set("www.ex.", api.CNAME, "b")), vote(2, 1, 0, set("www.ex.", api.CNAME, "a"))}, api.Verdict{Sets: []api.Set{set("www.ex.", api.CNAME, "a", "b")}}, 1},
		// A chain without end is no end.
		{www, []tally.Vote{vote(3, 1, 0, set("www.ex.", api.CNAME, "b")), vote(2, 1, 3)}, api.Verdict{Code: 3}, 1},
	} {
		v, time, is := merge.Union(x.q, x.l)
		if !is || time != x.time || !same(v, x.want) {
			t.Errorf("%d: %v %d %v, not %v %d", i, v, time, is, x.want, x.time)
		}
	}
	for _, x := range []struct {
		q api.Question
		l []tally.Vote
	}{{www, nil}, {www, []tally.Vote{}}, {api.Question{Name: "ex", Type: 1, Class: 1}, []tally.Vote{one, two}}, {api.Question{}, []tally.Vote{one}}, {api.Question{}, nil}} {
		if v, time, is := merge.Union(x.q, x.l); is || time != 0 || !same(v, api.Verdict{}) {
			t.Error(v, time, is)
		}
	}
}

func random(r *rand.Rand, up int) tally.Vote {
	v := vote(up, uint32(r.Intn(9)), 0)
	switch r.Intn(5) {
	case 0:
		v.Verdict.Code = 3
		v.Verdict.Soa = []api.Set{soa}
	case 1:
		v.Verdict.Soa = []api.Set{soa}
	case 2:
		v.Verdict.Sets = []api.Set{set("www.ex.", api.CNAME, named("a.cdn."))}
	case 3:
		v.Verdict.Sets = []api.Set{set("www.ex.", api.CNAME, named("a.cdn.")), set("a.cdn.", api.A, addr(byte(r.Intn(3)))...)}
	default:
		v.Verdict.Sets = []api.Set{set("www.ex.", api.A, addr(byte(r.Intn(2)), byte(2+r.Intn(2)))...)}
	}
	return v
}

// P23.2 to P23.5: any votes.
func TestAny(t *testing.T) {
	r := rand.New(rand.NewSource(1))
	for range 4000 {
		var l []tally.Vote
		for _, up := range r.Perm(9)[:1+r.Intn(5)] {
			l = append(l, random(r, up))
			if r.Intn(3) == 0 {
				l[len(l)-1].Verdict = l[0].Verdict
			}
		}
		v, time, is := merge.Union(www, l)
		if !is {
			t.Fatal(l)
		}
		shuffled := slices.Clone(l)
		r.Shuffle(len(l), func(i, j int) { shuffled[i], shuffled[j] = shuffled[j], shuffled[i] })
		if v2, time2, is2 := merge.Union(www, shuffled); !same(v, v2) || time != time2 || !is2 {
			t.Fatal("another order", l)
		}
		least, unanimous, first := l[0].Time, true, l[0]
		var data []string
		for _, x := range l {
			least = min(least, x.Time)
			unanimous = unanimous && same(x.Verdict, l[0].Verdict)
			if x.Up < first.Up {
				first = x
			}
			if end, is := verdict.End(www, x.Verdict); is {
				data = append(data, end.Data...)
			}
		}
		slices.Sort(data)
		want := first.Verdict
		switch {
		case unanimous:
			want = l[0].Verdict
		case len(data) > 0:
			want = api.Verdict{Sets: []api.Set{set("www.ex.", api.A, slices.Compact(data)...)}}
		}
		if time != least || !same(v, want) {
			t.Fatalf("%v: %v %d, not %v", l, v, time, want)
		}
	}
}

// R3: new memory, and arguments stay.
func TestNewMemory(t *testing.T) {
	for _, l := range [][]tally.Vote{
		{vote(1, 1, 0, set("www.ex.", api.A, addr(2)...)), vote(0, 1, 0, set("www.ex.", api.A, addr(1)...))},
		{vote(1, 1, 0, set("www.ex.", api.A, addr(2)...)), vote(0, 1, 0, set("www.ex.", api.A, addr(2)...))},
		{vote(1, 1, 0, set("www.ex.", api.CNAME, addr(2)...)), vote(0, 1, 0, set("www.ex.", api.CNAME, addr(1)...))},
	} {
		first, second := l[0].Verdict.Sets[0].Data[0], l[1].Verdict.Sets[0].Data[0]
		v, _, _ := merge.Union(www, l)
		v.Sets[0].Data[0], v.Sets[0].Name = "changed", "changed"
		if l[0].Up != 1 || l[0].Verdict.Sets[0].Data[0] != first || l[1].Verdict.Sets[0].Data[0] != second || l[0].Verdict.Sets[0].Name != www.Name {
			t.Error("shared", l)
		}
	}
}
