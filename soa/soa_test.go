package soa_test

import (
	"math/rand"
	"reflect"
	"slices"
	"strings"
	"testing"

	"hustings/api"
	"hustings/name"
	"hustings/rrset"
	"hustings/soa"
)

func named(s string) string {
	n, e := name.Parse(s)
	if e != api.OK {
		panic(s)
	}
	return n
}

func data(names string, last uint32) string {
	return names + strings.Repeat("\x01", 16) + string([]byte{byte(last >> 24), byte(last >> 16), byte(last >> 8), byte(last)})
}

func set(at string, ttl, last uint32) api.Set {
	return api.Set{Name: named(at), Type: api.SOA, Class: api.IN, TTL: ttl, Data: []string{data("\x00\x00", last)}}
}

// P10.1, P10.2: the chapter's examples.
func TestExamples(t *testing.T) {
	l := []api.Set{set(".", 7, 1), set("ex.", 9, 5)}
	for _, x := range []struct {
		n    string
		want int
	}{{"a.ex.", 1}, {"ex.", 1}, {"EX.", 1}, {"com.", 0}, {".", 0}, {"aex.", 0}} {
		s, is, e := soa.Find(l, named(x.n), api.IN)
		if !is || e != api.OK || !reflect.DeepEqual(s, l[x.want]) {
			t.Error(x.n, s, is, e)
		}
	}
	if n := soa.Time(l[1]); n != 5 {
		t.Error(n)
	}
	if n := soa.Time(set("ex.", 9, 0xffffffff)); n != 0 {
		t.Error(n)
	}
	two := set("ex.", 9, 5)
	two.Data = append(two.Data, two.Data[0])
	if s, is, e := soa.Find([]api.Set{two}, named("ex."), api.IN); is || e != api.ErrForm || !rrset.Same(s, api.Set{}) {
		t.Error(s, is, e)
	}
}

// P10.1: what matches, and what is refused.
func TestFind(t *testing.T) {
	other, kind, two, none := set("ex.", 1, 1), set("ex.", 1, 1), set("ex.", 1, 1), set("ex.", 1, 1)
	other.Class, kind.Type, two.Data, none.Data = 2, api.NS, []string{"a", "b"}, nil
	bad := set(".", 1, 1)
	bad.Name = "bad"
	odd := set("a.ex.", 1, 1)
	odd.Data = []string{"odd"}
	for i, x := range []struct {
		l  []api.Set
		n  string
		is bool
		at int
		e  api.Errno
	}{
		{nil, named("ex."), false, 0, api.OK},
		{[]api.Set{other, kind, bad}, named("ex."), false, 0, api.OK},
		{[]api.Set{set("a.ex.", 1, 1)}, named("ex."), false, 0, api.OK},
		{[]api.Set{set("ex.", 1, 1)}, "ex", false, 0, api.OK},
		{[]api.Set{set(".", 1, 1), two}, "", false, 0, api.OK},
		{[]api.Set{bad}, "bad", false, 0, api.OK},
		{[]api.Set{set("ex.", 1, 1), set("ex.", 2, 2)}, named("ex."), true, 0, api.OK},
		{[]api.Set{set(".", 1, 1), set("EX.", 1, 1), set("ex.", 2, 2)}, named("ex."), true, 1, api.OK},
		{[]api.Set{two, set("a.ex.", 1, 1)}, named("a.ex."), true, 1, api.OK},
		{[]api.Set{two, set("a.ex.", 1, 1)}, named("b.ex."), false, 0, api.ErrForm},
		{[]api.Set{set(".", 1, 1), none}, named("b.ex."), false, 0, api.ErrForm},
		{[]api.Set{set("a.ex.", 1, 1), set("ex.", 1, 1)}, named("b.a.ex."), true, 0, api.OK},
		{[]api.Set{set("ex.", 1, 1), set("a.ex.", 1, 1), set(".", 3, 3)}, named("b.a.ex."), true, 1, api.OK},
		{[]api.Set{set("ex.", 1, 1), odd}, named("a.ex."), true, 1, api.OK},
		{[]api.Set{other, set(".", 4, 4)}, named("ex."), true, 1, api.OK},
	} {
		s, is, e := soa.Find(x.l, x.n, api.IN)
		if is != x.is || e != x.e || is && !reflect.DeepEqual(s, x.l[x.at]) || !is && !rrset.Same(s, api.Set{}) {
			t.Errorf("%d: %v %v %v", i, s, is, e)
		}
	}
	if s, is, e := soa.Find([]api.Set{other}, named("ex."), 2); !is || e != api.OK || s.Class != 2 {
		t.Error(s, is, e)
	}
}

// P10.2, P10.6: times.
func TestTime(t *testing.T) {
	for _, x := range [][3]uint32{
		{9, 5, 5}, {5, 9, 5}, {5, 5, 5}, {0, 5, 0}, {5, 0, 0}, {1<<31 - 1, 1<<31 - 1, 1<<31 - 1}, {1 << 31, 5, 0}, {5, 1 << 31, 0}, {1<<32 - 1, 1<<32 - 1, 0},
		{1<<31 - 1, 0x01020304, 0x01020304}, {1 << 30, 1 << 24, 1 << 24},
	} {
		s := set("ex.", x[0], x[1])
		if n := soa.Time(s); n != x[2] {
			t.Error(x, n)
		}
		s.Data[0] = data("\x01a\x00\x01b\x00", x[1])
		if n := soa.Time(s); n != x[2] {
			t.Error(x, n)
		}
		b := []byte(s.Data[0])
		b[len(b)-18] ^= 0xff // in the serial number
		s.Data[0] = string(b)
		if n := soa.Time(s); n != x[2] {
			t.Error(x, n)
		}
	}
	of := func(change func(s *api.Set)) api.Set {
		s := set("ex.", 9, 5)
		change(&s)
		return s
	}
	for i, s := range []api.Set{
		{}, of(func(s *api.Set) { s.Type = api.NS }), of(func(s *api.Set) { s.Data = nil }), of(func(s *api.Set) { s.Data = append(s.Data, s.Data[0]) }),
		of(func(s *api.Set) { s.Data[0] += "\x00" }), of(func(s *api.Set) { s.Data[0] = s.Data[0][1:] }), of(func(s *api.Set) { s.Data[0] = "\x05" }), of(func(s *api.Set) { s.Data[0] = "" }),
		of(func(s *api.Set) { s.Data[0] = "\x00\xC0\x00" + s.Data[0][2:] }),
	} {
		if n := soa.Time(s); n != 0 {
			t.Error(i, n)
		}
	}
	if n := soa.Time(of(func(s *api.Set) { s.Class, s.Name = 77, "bad" })); n != 5 {
		t.Error(n)
	}
}

var places = []string{".", "ex.", "EX.", "a.ex.", "b.a.ex.", "c.", "a.c."}

func random(r *rand.Rand) api.Set {
	s := set(places[r.Intn(len(places))], uint32(r.Intn(100)), uint32(r.Intn(100)))
	switch r.Intn(8) {
	case 0:
		s.Class = 2
	case 1:
		s.Type = api.NS
	}
	return s
}

func matches(s api.Set, n string) bool {
	return s.Type == api.SOA && s.Class == api.IN && name.Within(n, s.Name)
}

// P10.3 to P10.6: any sets.
func TestAny(t *testing.T) {
	r := rand.New(rand.NewSource(1))
	for range 4000 {
		var l []api.Set
		for range r.Intn(6) {
			l = append(l, random(r))
		}
		n := named(places[r.Intn(len(places))])
		best := -1
		for i, s := range l {
			if matches(s, n) && (best < 0 || len(name.Labels(s.Name)) > len(name.Labels(l[best].Name))) {
				best = i
			}
		}
		s, is, e := soa.Find(l, n, api.IN)
		if e != api.OK || is != (best >= 0) || is && !reflect.DeepEqual(s, l[best]) {
			t.Fatal(l, s, is, e)
		}
		more := random(r)
		s2, is2, _ := soa.Find(append(slices.Clone(l), more), n, api.IN)
		want, there := s, is
		if matches(more, n) && (!is || len(name.Labels(more.Name)) > len(name.Labels(s.Name))) {
			want, there = more, true
		}
		if is2 != there || there && !reflect.DeepEqual(s2, want) {
			t.Fatal(s2, is2)
		}
		inner := "\x01x" + n
		s3, is3, _ := soa.Find(l, inner, api.IN)
		if is && (!is3 || len(name.Labels(s3.Name)) < len(name.Labels(s.Name))) {
			t.Fatal(s3, is3)
		}
		if is {
			if n := soa.Time(s); n > s.TTL {
				t.Fatal(n, s)
			}
		}
	}
}

// R3: new memory.
func TestNewMemory(t *testing.T) {
	l := []api.Set{set("ex.", 9, 5)}
	s, _, _ := soa.Find(l, named("ex."), api.IN)
	s.Data[0] = "x"
	if l[0].Data[0] != data("\x00\x00", 5) {
		t.Error("shared")
	}
}
