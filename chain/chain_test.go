package chain_test

import (
	"math/rand"
	"reflect"
	"slices"
	"strconv"
	"testing"

	"hustings/api"
	"hustings/chain"
	"hustings/name"
	"hustings/rrset"
)

func named(s string) string {
	n, e := name.Parse(s)
	if e != api.OK {
		panic(s)
	}
	return n
}

func cname(from, to string) api.Record {
	return api.Record{Name: named(from), Type: api.CNAME, Class: api.IN, TTL: 9, Data: named(to)}
}

func addr(at string, last byte) api.Record {
	return api.Record{Name: named(at), Type: api.A, Class: api.IN, TTL: 5, Data: "\x0a\x00\x00" + string([]byte{last})}
}

func ask(s string, kind uint16) api.Question {
	return api.Question{Name: named(s), Type: kind, Class: api.IN}
}

// texts are the names of sets.
func texts(l []api.Set) []string {
	out := []string{}
	for _, s := range l {
		out = append(out, name.Text(s.Name))
	}
	return out
}

func names(n int, from int) []api.Record {
	var l []api.Record
	for i := range n {
		l = append(l, cname("n"+strconv.Itoa(from+i)+".", "n"+strconv.Itoa(from+i+1)+"."))
	}
	return l
}

// P9.1, P9.3, P9.5: the chapter's examples, and each error.
func TestFollow(t *testing.T) {
	www := []api.Record{cname("www.ex.", "a.ex."), addr("a.ex.", 1)}
	for _, x := range []struct {
		what  string
		q     api.Question
		l     []api.Record
		chain []string
		at    string
		end   bool
		e     api.Errno
	}{
		{"one step", ask("www.ex.", api.A), www, []string{"www.ex."}, "a.ex.", true, api.OK},
		{"another letter case", ask("WWW.Ex.", api.A), www, []string{"www.ex."}, "a.ex.", true, api.OK},
		{"a question of type CNAME", ask("www.ex.", api.CNAME), www, nil, "www.ex.", true, api.OK},
		{"a question of type CNAME without one", ask("a.ex.", api.CNAME), www, nil, "a.ex.", false, api.OK},
		{"nothing there", ask("b.ex.", api.A), www, nil, "b.ex.", false, api.OK},
		{"no chain", ask("A.ex.", api.A), www, nil, "a.ex.", true, api.OK},
		{"a chain without end", ask("www.ex.", api.AAAA), www, []string{"www.ex."}, "a.ex.", false, api.OK},
		{"no name", api.Question{Name: "ex", Type: api.A, Class: 1}, www, nil, "", false, api.ErrArg},
		{"no name, and a loop", api.Question{Name: "", Type: api.A, Class: 1}, []api.Record{cname("a.", "a.")}, nil, "", false, api.ErrArg},
		{"no name, of type CNAME", api.Question{Name: "", Type: api.CNAME, Class: 1}, nil, nil, "", false, api.ErrArg},
		{"two that lead to each other", ask("a.", api.A), []api.Record{cname("a.", "b."), cname("b.", "a.")}, nil, "", false, api.ErrLoop},
		{"one that leads to itself", ask("a.", api.A), []api.Record{cname("a.", "a.")}, nil, "", false, api.ErrLoop},
		{"one that leads to itself in other letters", ask("a.", api.A), []api.Record{cname("a.", "A.")}, nil, "", false, api.ErrLoop},
		{"a loop that does not lead to the first", ask("a.", api.A), []api.Record{cname("a.", "b."), cname("b.", "c."), cname("c.", "b.")}, nil, "", false, api.ErrLoop},
		{"one that leads to itself, asked by type CNAME", ask("a.", api.CNAME), []api.Record{cname("a.", "a.")}, nil, "a.", true, api.OK},
		{"data beside the CNAME", ask("a.", api.A), []api.Record{cname("a.", "b."), addr("a.", 1)}, nil, "", false, api.ErrForm},
		{"data of another type beside the CNAME", ask("a.", api.AAAA), []api.Record{cname("a.", "b."), addr("a.", 1)}, []string{"a."}, "b.", false, api.OK},
		{"data beside a CNAME further on", ask("a.", api.A), []api.Record{cname("a.", "b."), cname("b.", "c."), addr("b.", 1), addr("c.", 2)}, nil, "", false, api.ErrForm},
		{"data beside a CNAME to itself", ask("a.", api.A), []api.Record{cname("a.", "a."), addr("a.", 1)}, nil, "", false, api.ErrForm},
		{"two CNAMEs", ask("a.", api.A), []api.Record{cname("a.", "b."), cname("a.", "c.")}, nil, "", false, api.ErrForm},
		{"two CNAMEs to one name", ask("a.", api.A), []api.Record{cname("a.", "b."), cname("a.", "B.")}, []string{"a."}, "b.", false, api.OK},
		{"two CNAMEs, asked by type CNAME", ask("a.", api.CNAME), []api.Record{cname("a.", "b."), cname("a.", "c.")}, nil, "a.", true, api.OK},
		{"eight", ask("n0.", api.A), append(names(8, 0), addr("n8.", 1)), []string{"n0.", "n1.", "n2.", "n3.", "n4.", "n5.", "n6.", "n7."}, "n8.", true, api.OK},
		{"eight without end", ask("n0.", api.A), names(8, 0), []string{"n0.", "n1.", "n2.", "n3.", "n4.", "n5.", "n6.", "n7."}, "n8.", false, api.OK},
		{"nine", ask("n0.", api.A), names(9, 0), nil, "", false, api.ErrLong},
		{"nine, the last one with data beside it", ask("n0.", api.A), append(names(9, 0), addr("n8.", 1)), nil, "", false, api.ErrLong},
		{"nine, the last one of two data", ask("n0.", api.A), append(names(9, 0), cname("n8.", "x.")), nil, "", false, api.ErrLong},
		{"a loop of nine names", ask("n0.", api.A), append(names(8, 0), cname("n8.", "n0.")), nil, "", false, api.ErrLong},
		{"a loop of eight names", ask("n0.", api.A), append(names(7, 0), cname("n7.", "n0.")), nil, "", false, api.ErrLoop},
		{"nothing at all", ask(".", api.A), nil, nil, ".", false, api.OK},
	} {
		c, at, end, e := chain.Follow(x.q, rrset.Group(x.l))
		if e != x.e || !slices.Equal(texts(c), x.chain) || len(end) > 1 || (len(end) == 1) != x.end {
			t.Errorf("%s: %v %q %v %v", x.what, texts(c), at, end, e)
		}
		if e != api.OK && at != "" || e == api.OK && at != named(x.at) {
			t.Errorf("%s: at %q", x.what, at)
		}
		if x.end && (end[0].Type != x.q.Type || end[0].Class != x.q.Class || end[0].Name != at) {
			t.Errorf("%s: %v", x.what, end)
		}
	}
}

// P9.1: the sets are as they are in the list.
func TestSets(t *testing.T) {
	l := rrset.Group([]api.Record{cname("www.ex.", "a.ex."), addr("a.ex.", 1), addr("a.ex.", 2)})
	c, _, end, e := chain.Follow(ask("www.ex.", api.A), l)
	if e != api.OK || !reflect.DeepEqual(c, []api.Set{{Name: named("www.ex."), Type: api.CNAME, Class: 1, TTL: 9, Data: []string{named("a.ex.")}}}) ||
		!reflect.DeepEqual(end, []api.Set{{Name: named("a.ex."), Type: api.A, Class: 1, TTL: 5, Data: []string{"\x0a\x00\x00\x01", "\x0a\x00\x00\x02"}}}) {
		t.Error(c, end, e)
	}
	c[0].Data[0], end[0].Data[0] = "x", "y"
	if again, _, end, _ := chain.Follow(ask("www.ex.", api.A), l); again[0].Data[0] != named("a.ex.") || end[0].Data[0] != "\x0a\x00\x00\x01" {
		t.Error("shared", again, end)
	}
}

func randomRecords(r *rand.Rand) []api.Record {
	var l []api.Record
	some := []string{"a.", "b.", "c.", "d.", "e.", "A."}
	for range r.Intn(8) {
		x := cname(some[r.Intn(6)], some[r.Intn(6)])
		if r.Intn(3) == 0 {
			x = addr(some[r.Intn(6)], byte(r.Intn(2)))
		}
		x.Class = uint16(1 + r.Intn(4)/3)
		l = append(l, x)
	}
	return l
}

// follow is S3's walk, told plainly.
func follow(q api.Question, l []api.Set) (path []string, end bool, e api.Errno) {
	find := func(n string, kind uint16) *api.Set {
		for i, s := range l {
			if s.Name == n && s.Type == kind && s.Class == q.Class {
				return &l[i]
			}
		}
		return nil
	}
	at := name.Fold(q.Name)
	path = []string{at}
	for q.Type != api.CNAME {
		s := find(at, api.CNAME)
		if s == nil {
			break
		}
		if len(path) == 9 {
			return nil, false, api.ErrLong
		}
		if len(s.Data) != 1 || find(at, q.Type) != nil {
			return nil, false, api.ErrForm
		}
		at = s.Data[0]
		if slices.Contains(path, at) {
			return nil, false, api.ErrLoop
		}
		path = append(path, at)
	}
	return path, find(at, q.Type) != nil, api.OK
}

// P9.2 to P9.5: any sets.
func TestAny(t *testing.T) {
	r := rand.New(rand.NewSource(1))
	for range 5000 {
		l := rrset.Group(randomRecords(r))
		q := ask([]string{"a.", "B.", "c."}[r.Intn(3)], []uint16{api.A, api.CNAME, api.AAAA}[r.Intn(3)])
		q.Class = uint16(1 + r.Intn(4)/3)
		path, is, we := follow(q, l)
		c, at, end, e := chain.Follow(q, l)
		if e != we {
			t.Fatalf("%v of %v: %v, not %v", q, l, e, we)
		}
		if e != api.OK {
			if len(c) != 0 || at != "" || len(end) != 0 {
				t.Fatal(c, at, end)
			}
			continue
		}
		if len(c) != len(path)-1 || at != path[len(path)-1] || (len(end) == 1) != is || len(end) > 1 || len(c) > api.MaxChain {
			t.Fatalf("%v of %v: %v %q %v", q, l, c, at, end)
		}
		for i, s := range c {
			if s.Name != path[i] || s.Type != api.CNAME || s.Class != q.Class || !slices.Equal(s.Data, []string{path[i+1]}) {
				t.Fatal(s)
			}
		}
		more := slices.Clone(l)
		for range 3 {
			far := addr("z.", 1)
			if r.Intn(2) == 0 {
				far = cname("a.", "z.")
				far.Class = 9
			}
			more = append(more, rrset.Group([]api.Record{far})...)
		}
		c2, at2, end2, e2 := chain.Follow(q, more)
		if !reflect.DeepEqual(c2, c) || at2 != at || !reflect.DeepEqual(end2, end) || e2 != e {
			t.Fatal("what is not reached changes something")
		}
	}
}

// P9.1, R1: lists that Group did not make end, too.
func TestOtherLists(t *testing.T) {
	for _, l := range [][]api.Set{
		{{Name: named("a."), Type: api.CNAME, Class: 1}},
		{{Name: named("a."), Type: api.CNAME, Class: 1, Data: []string{"bad"}}},
	} {
		c, at, end, e := chain.Follow(ask("a.", api.A), l)
		if len(c) != 0 || at != "" || len(end) != 0 || e != api.ErrForm {
			t.Error(c, at, end, e)
		}
	}
	for _, l := range [][]api.Set{
		{{Name: "", Type: api.CNAME, Class: 1, Data: []string{""}}, {Type: 1, Class: 1}},
		{{Name: named("A."), Type: api.CNAME, Class: 1, Data: []string{named("B.")}}, {Name: named("b."), Type: api.CNAME, Class: 1, Data: []string{named("A.")}}},
	} {
		chain.Follow(ask("a.", api.A), l)
	}
}
