package rrset_test

import (
	"math/rand"
	"reflect"
	"slices"
	"strings"
	"testing"

	"hustings/api"
	"hustings/name"
	"hustings/rdata"
	"hustings/rrset"
)

const ex = "\x02ex\x00"

var twenty = strings.Repeat("ABCDe", 4)

func randomName(r *rand.Rand) string {
	return []string{"\x00", ex, "\x02EX\x00", "\x01a\x02ex\x00", "\x01A\x02eX\x00", "\x01b\x00", "\x01[\x00"}[r.Intn(7)]
}

// randomRecord is invalid now and then.
func randomRecord(r *rand.Rand) api.Record {
	x := api.Record{Name: randomName(r), Class: uint16(1 + r.Intn(2)), TTL: uint32(r.Intn(10))}
	switch r.Intn(12) {
	case 0:
		x.TTL = 1<<31 + uint32(r.Intn(3)) - 1
	case 1:
		x.TTL = 1<<32 - 1
	}
	a, b := randomName(r), randomName(r)
	switch r.Intn(8) {
	case 0:
		x.Type, x.Data = api.A, "\x0a\x00\x00"+string([]byte{byte(r.Intn(4))})
	case 1:
		x.Type, x.Data = api.NS, a
	case 2:
		x.Type, x.Data = api.SOA, a+b+twenty
	case 3:
		x.Type, x.Data = api.SRV, "ABCDEF"+a
	case 4:
		x.Type, x.Data = api.TXT, []string{"\x01A", "\x01a", "\x00"}[r.Intn(3)]
	case 5:
		x.Type, x.Data = 99, []string{"", "A", "a", "\xff", "aa"}[r.Intn(5)]
	case 6:
		x.Type, x.Data = api.MX, "AB"+a
	default:
		switch r.Intn(3) {
		case 0:
			x.Type, x.Data = api.A, "abc"
		case 1:
			x.Type = api.OPT
		default:
			x.Name = "ex"
		}
	}
	return x
}

func randomRecords(r *rand.Rand) []api.Record {
	var l []api.Record
	for range r.Intn(12) {
		l = append(l, randomRecord(r))
	}
	return l
}

func valid(x api.Record) bool {
	return name.May(x.Name) && rdata.May(x.Type, x.Data)
}

func less(a, b api.Set) bool {
	switch c := name.Compare(a.Name, b.Name); {
	case c != 0:
		return c < 0
	case a.Type != b.Type:
		return a.Type < b.Type
	}
	return a.Class < b.Class
}

// model is the sets as S3 says, told plainly.
func model(l []api.Record) []api.Set {
	var sets []api.Set
	for _, x := range l {
		if !valid(x) {
			continue
		}
		n, data, ttl := name.Fold(x.Name), rdata.Fold(x.Type, x.Data), x.TTL
		if ttl > api.MaxTTL {
			ttl = 0
		}
		at := slices.IndexFunc(sets, func(s api.Set) bool { return s.Name == n && s.Type == x.Type && s.Class == x.Class })
		if at < 0 {
			sets = append(sets, api.Set{Name: n, Type: x.Type, Class: x.Class, TTL: ttl, Data: []string{data}})
			continue
		}
		s := &sets[at]
		if ttl < s.TTL {
			s.TTL = ttl
		}
		if !slices.Contains(s.Data, data) {
			s.Data = append(s.Data, data)
		}
	}
	for i := range sets {
		slices.Sort(sets[i].Data)
		for j := i; j > 0 && less(sets[j], sets[j-1]); j-- {
			sets[j], sets[j-1] = sets[j-1], sets[j]
		}
	}
	return sets
}

func same(a, b []api.Set) bool {
	return len(a) == len(b) && (len(a) == 0 || reflect.DeepEqual(a, b))
}

// P8.1: the chapter's example.
func TestExample(t *testing.T) {
	l := []api.Record{
		{Name: ex, Type: api.A, Class: api.IN, TTL: 5, Data: "\x0a\x00\x00\x02"},
		{Name: "\x02EX\x00", Type: api.A, Class: api.IN, TTL: 3, Data: "\x0a\x00\x00\x01"},
		{Name: ex, Type: api.A, Class: api.IN, TTL: 9, Data: "\x0a\x00\x00\x02"},
	}
	want := []api.Set{{Name: ex, Type: api.A, Class: api.IN, TTL: 3, Data: []string{"\x0a\x00\x00\x01", "\x0a\x00\x00\x02"}}}
	if got := rrset.Group(l); !same(got, want) {
		t.Error(got)
	}
	want[0].TTL = 0
	if got := rrset.Group(append(l, api.Record{Name: ex, Type: api.A, Class: api.IN, TTL: 1 << 31, Data: "\x0a\x00\x00\x01"})); !same(got, want) {
		t.Error(got)
	}
	if got := rrset.Group([]api.Record{{Name: ex, Type: api.A, Class: api.IN, Data: "abc"}}); len(got) != 0 {
		t.Error(got)
	}
	if got := rrset.Group(nil); len(got) != 0 {
		t.Error(got)
	}
	if got := rrset.Group([]api.Record{{Name: ex, Type: api.A, Class: 1, TTL: 1<<31 - 1, Data: "abcd"}}); got[0].TTL != 1<<31-1 {
		t.Error(got)
	}
}

// P8.1: sets come by name, type and class.
func TestOrder(t *testing.T) {
	of := func(n string, kind, class uint16) api.Record {
		return api.Record{Name: n, Type: kind, Class: class, Data: "abcd"}
	}
	l := []api.Record{of("\x01a\x02ex\x00", 99, 1), of(ex, 100, 1), of(ex, 99, 2), of(ex, 99, 1), of(ex, 300, 1), of("\x01f\x00", 1, 1), of("\x00", 500, 9), of(ex, 1, 256)}
	want := []api.Record{of("\x00", 500, 9), of(ex, 1, 256), of(ex, 99, 1), of(ex, 99, 2), of(ex, 100, 1), of(ex, 300, 1), of("\x01a\x02ex\x00", 99, 1), of("\x01f\x00", 1, 1)}
	var got []api.Record
	for _, s := range rrset.Group(l) {
		got = append(got, rrset.Records(s)...)
	}
	if !slices.Equal(got, want) {
		t.Error(got)
	}
}

// P8.1, P8.3 to P8.8: any records.
func TestGroup(t *testing.T) {
	r := rand.New(rand.NewSource(1))
	for range 3000 {
		l := randomRecords(r)
		before := slices.Clone(l)
		sets := rrset.Group(l)
		if !same(sets, model(l)) {
			t.Fatalf("%v: %v, not %v", l, sets, model(l))
		}
		if !slices.Equal(l, before) {
			t.Fatal("the records are changed")
		}
		for i, s := range sets {
			if i > 0 && !less(sets[i-1], s) {
				t.Fatal(sets)
			}
			if len(s.Data) == 0 || s.Name != name.Fold(s.Name) {
				t.Fatal(s)
			}
			for j := range s.Data[1:] {
				if s.Data[j] >= s.Data[j+1] {
					t.Fatal(s)
				}
			}
		}
		shuffled := slices.Clone(l)
		if len(l) > 0 {
			shuffled = append(shuffled, l[r.Intn(len(l))])
		}
		r.Shuffle(len(shuffled), func(i, j int) { shuffled[i], shuffled[j] = shuffled[j], shuffled[i] })
		if !same(rrset.Group(shuffled), sets) {
			t.Fatal("another order")
		}
		var back []api.Record
		for _, s := range sets {
			back = append(back, rrset.Records(s)...)
		}
		if !same(rrset.Group(back), sets) {
			t.Fatal("and back", sets)
		}
		for _, x := range l {
			s, is := rrset.Find(sets, x.Name, x.Type, x.Class)
			if !valid(x) {
				continue
			}
			if !is || !slices.Contains(s.Data, rdata.Fold(x.Type, x.Data)) || s.Name != name.Fold(x.Name) || s.Type != x.Type || s.Class != x.Class {
				t.Fatal(x, s, is)
			}
			if x.TTL <= api.MaxTTL && s.TTL > x.TTL || x.TTL > api.MaxTTL && s.TTL != 0 {
				t.Fatal(x, s)
			}
		}
	}
}

// P8.6: another TTL changes the TTL of its set alone.
func TestOtherTTL(t *testing.T) {
	r := rand.New(rand.NewSource(2))
	for range 500 {
		l := randomRecords(r)
		if len(l) == 0 {
			continue
		}
		a := rrset.Group(l)
		i := r.Intn(len(l))
		l[i].TTL = r.Uint32()
		b := rrset.Group(l)
		if len(a) != len(b) {
			t.Fatal(a, b)
		}
		for j := range a {
			if a[j].TTL != b[j].TTL && !(a[j].Name == name.Fold(l[i].Name) && a[j].Type == l[i].Type && a[j].Class == l[i].Class) {
				t.Fatal(a[j], b[j])
			}
			a[j].TTL = b[j].TTL
		}
		if !same(a, b) {
			t.Fatal(a, b)
		}
	}
}

// P8.7: letter case of names, and of those in data, changes nothing; of other data it does.
func TestCase(t *testing.T) {
	of := func(n string, kind uint16, data string) []api.Set {
		return rrset.Group([]api.Record{{Name: n, Type: kind, Class: 1, Data: data}})
	}
	for kind, data := range map[uint16][2]string{
		api.NS: {"\x01A\x00", "\x01a\x00"}, api.CNAME: {"\x01A\x00", "\x01a\x00"}, api.PTR: {"\x01A\x00", "\x01a\x00"}, api.MX: {"AA\x01A\x00", "AA\x01a\x00"},
		api.SOA: {"\x01A\x00\x01B\x00" + twenty, "\x01a\x00\x01b\x00" + twenty}, api.SRV: {"ABCDEF\x01A\x00", "ABCDEF\x01a\x00"},
	} {
		if a, b := of("\x02EX\x00", kind, data[0]), of(ex, kind, data[1]); !same(a, b) || len(b) != 1 || b[0].Name != ex || b[0].Data[0] != data[1] {
			t.Error(kind, a, b)
		}
	}
	if same(of(ex, api.TXT, "\x01A"), of(ex, api.TXT, "\x01a")) || same(of(ex, 99, "A"), of(ex, 99, "a")) || same(of(ex, api.A, "AAAA"), of(ex, api.A, "aaaa")) {
		t.Error("folded what is no name")
	}
}

// P8.2: what is found.
func TestFind(t *testing.T) {
	l := []api.Set{
		{Name: ex, Type: 1, Class: 1, TTL: 1, Data: []string{"a"}}, {Name: "\x02EX\x00", Type: 1, Class: 1, TTL: 2, Data: []string{"b"}},
		{Name: ex, Type: 2, Class: 1, TTL: 3}, {Name: ex, Type: 1, Class: 2, TTL: 4}, {Name: "bad", Type: 7, Class: 7, TTL: 5},
	}
	for _, x := range []struct {
		n           string
		kind, class uint16
		want        uint32
	}{
		{ex, 1, 1, 1}, {"\x02Ex\x00", 1, 1, 1}, {ex, 2, 1, 3}, {ex, 1, 2, 4}, {ex, 2, 2, 0}, {"\x00", 1, 1, 0}, {"\x01a\x02ex\x00", 1, 1, 0}, {"", 1, 1, 0}, {"bad", 7, 7, 0}, {ex, 3, 1, 0},
	} {
		s, is := rrset.Find(l, x.n, x.kind, x.class)
		if is != (x.want > 0) || s.TTL != x.want || !is && !rrset.Same(s, api.Set{}) {
			t.Error(x, s, is)
		}
	}
	s, _ := rrset.Find(l, ex, 1, 1)
	s.Data[0] = "z"
	if l[0].Data[0] != "a" {
		t.Error("shared")
	}
	if s, is := rrset.Find(nil, ex, 1, 1); is || !rrset.Same(s, api.Set{}) {
		t.Error(s)
	}
}

// P8.2: sameness is of all parts.
func TestSame(t *testing.T) {
	of := func() api.Set { return api.Set{Name: ex, Type: 1, Class: 2, TTL: 3, Data: []string{"a", "b"}} }
	if !rrset.Same(of(), of()) || !rrset.Same(api.Set{}, api.Set{Data: []string{}}) {
		t.Error("not the same")
	}
	for i, change := range []func(s *api.Set){
		func(s *api.Set) { s.Name = "\x02EX\x00" }, func(s *api.Set) { s.Type++ }, func(s *api.Set) { s.Class++ }, func(s *api.Set) { s.TTL++ }, func(s *api.Set) { s.Data[0] = "b" },
		func(s *api.Set) { s.Data = s.Data[:1] }, func(s *api.Set) { s.Data = nil }, func(s *api.Set) { s.Data[0], s.Data[1] = "b", "a" }, func(s *api.Set) { s.Data = append(s.Data, "c") },
	} {
		s := of()
		change(&s)
		if rrset.Same(s, of()) || rrset.Same(of(), s) {
			t.Error(i)
		}
	}
}

// P8.1: records of a set.
func TestRecords(t *testing.T) {
	l := rrset.Records(api.Set{Name: ex, Type: 1, Class: 2, TTL: 3, Data: []string{"b", "a"}})
	if !slices.Equal(l, []api.Record{{Name: ex, Type: 1, Class: 2, TTL: 3, Data: "b"}, {Name: ex, Type: 1, Class: 2, TTL: 3, Data: "a"}}) {
		t.Error(l)
	}
	if l := rrset.Records(api.Set{Name: ex}); len(l) != 0 {
		t.Error(l)
	}
}
