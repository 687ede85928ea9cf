package zone_test

import (
	"math/rand"
	"slices"
	"strconv"
	"strings"
	"testing"

	"hustings/api"
	"hustings/name"
	"hustings/zone"
)

func named(s string) string {
	n, e := name.Parse(s)
	if e != api.OK {
		panic(s)
	}
	return n
}

func of(s string, policy uint8, trust uint16) api.Zone {
	return api.Zone{Name: named(s), Policy: policy, Trust: trust}
}

var none = api.Zone{Name: "\x00", Policy: api.Strict}

// P18.1, P18.2: the chapter's examples.
func TestExamples(t *testing.T) {
	ex, aex := of("ex.", api.Strict, 0), of("a.ex.", api.Union, 0)
	tab, e := zone.New([]api.Zone{ex, aex})
	if e != api.OK || tab.Len() != 2 {
		t.Fatal(e)
	}
	for s, want := range map[string]api.Zone{"b.ex.": ex, "a.ex.": aex, "x.A.ex.": aex, "com.": none, ".": none, "EX.": ex, "aex.": none, "ex.com.": none, "b.x.a.ex.": aex, "a.b.ex.": ex} {
		if got := tab.Find(named(s)); got != want {
			t.Errorf("%s: %v", s, got)
		}
	}
	for _, n := range []string{"", "ex", "\x02ex", "\xC0\x00", "\x02ex\x00\x00"} {
		if got := tab.Find(n); got != none {
			t.Errorf("%q: %v", n, got)
		}
	}
	all, e := zone.New([]api.Zone{of(".", api.Trusted, 5), ex})
	if e != api.OK || all.Find("\x00") != of(".", api.Trusted, 5) || all.Find(named("com.")) != of(".", api.Trusted, 5) || all.Find(named("a.ex.")) != ex || all.Find("bad") != none {
		t.Error(e)
	}
}

// P18.1: what is refused, in its order.
func TestRefused(t *testing.T) {
	var many []api.Zone
	for i := range 17 {
		many = append(many, of("z"+strconv.Itoa(i)+".", api.Strict, 0))
	}
	if tab, e := zone.New(many[:16]); e != api.OK || tab.Len() != 16 {
		t.Error(e)
	}
	ex := of("ex.", api.Strict, 0)
	long := api.Zone{Name: strings.Repeat("\x01a", 128) + "\x00", Policy: api.Strict}
	for i, x := range []struct {
		l []api.Zone
		e api.Errno
	}{
		{many, api.ErrLong}, {append(slices.Clone(many[:15]), ex, of("Ex.", 9, 0)), api.ErrLong},
		{[]api.Zone{ex, ex}, api.ErrHave}, {[]api.Zone{ex, of("ex.", api.Union, 1)}, api.ErrHave}, {[]api.Zone{of(".", api.Strict, 0), of(".", api.Strict, 0)}, api.ErrHave},
		{[]api.Zone{of("Ex.", api.Strict, 0)}, api.ErrForm}, {[]api.Zone{{Name: "ex", Policy: api.Strict}}, api.ErrForm}, {[]api.Zone{{}}, api.ErrForm}, {[]api.Zone{long}, api.ErrForm},
		{[]api.Zone{of("ex.", 0, 0)}, api.ErrForm}, {[]api.Zone{of("ex.", 5, 0)}, api.ErrForm}, {[]api.Zone{of("ex.", 255, 0)}, api.ErrForm},
		{[]api.Zone{ex, ex, of("Ex.", 1, 0)}, api.ErrHave}, {[]api.Zone{ex, of("Ex.", 1, 0), ex}, api.ErrForm}, {[]api.Zone{ex, of("ex.", 9, 0)}, api.ErrForm},
	} {
		if tab, e := zone.New(x.l); tab != nil || e != x.e {
			t.Errorf("%d: %v", i, e)
		}
	}
	if tab, e := zone.New([]api.Zone{of("ex.", api.Strict, 99), of("a.", api.Trusted, 0), of("b.", api.Refuse, 1)}); e != api.OK || tab.Len() != 3 || tab.Find(named("ex.")).Trust != 99 {
		t.Error("Trust is checked", e)
	}
}

// P18.1, P18.2: nil, zero, and no zones.
func TestNone(t *testing.T) {
	var nothing *zone.Table
	empty, e := zone.New(nil)
	if e != api.OK {
		t.Fatal(e)
	}
	for _, tab := range []*zone.Table{nothing, {}, empty} {
		if tab.Len() != 0 || tab.Find(named("a.ex.")) != none || tab.Find("") != none || tab.Find("\x00") != none {
			t.Error(tab)
		}
	}
}

var places = []string{".", "ex.", "a.ex.", "b.a.ex.", "b.ex.", "com.", "a.com.", "a.", "c.b.a.ex."}

func random(r *rand.Rand) []api.Zone {
	l := slices.Clone(places)
	r.Shuffle(len(l), func(i, j int) { l[i], l[j] = l[j], l[i] })
	var out []api.Zone
	for _, s := range l[:r.Intn(len(l))] {
		out = append(out, of(s, uint8(1+r.Intn(4)), uint16(r.Intn(9))))
	}
	return out
}

func find(l []api.Zone, n string) (api.Zone, bool) {
	best, is := none, false
	for _, z := range l {
		if name.Within(n, z.Name) && (!is || len(name.Labels(z.Name)) > len(name.Labels(best.Name))) {
			best, is = z, true
		}
	}
	return best, is
}

// P18.3 to P18.7: any zones.
func TestAny(t *testing.T) {
	r := rand.New(rand.NewSource(1))
	for range 1500 {
		l := random(r)
		tab, e := zone.New(l)
		if e != api.OK || tab.Len() != len(l) {
			t.Fatal(e)
		}
		shuffled := slices.Clone(l)
		r.Shuffle(len(l), func(i, j int) { shuffled[i], shuffled[j] = shuffled[j], shuffled[i] })
		other, _ := zone.New(shuffled)
		more := of(places[r.Intn(len(places))], api.Union, 77)
		bigger, e := zone.New(append(slices.Clone(l), more))
		have := slices.ContainsFunc(l, func(z api.Zone) bool { return z.Name == more.Name })
		if have != (e == api.ErrHave) || !have && e != api.OK {
			t.Fatal(e)
		}
		for _, s := range []string{".", "ex.", "x.ex.", "a.ex.", "x.a.ex.", "d.c.b.a.ex.", "b.a.ex.", "com.", "a.b.com.", "net.", "aa.ex."} {
			n := named(s)
			want, is := find(l, n)
			got := tab.Find(n)
			if got != want || other.Find(n) != want || tab.Find(strings.ToUpper(n)) != want {
				t.Fatal(s, got, want)
			}
			if have {
				continue
			}
			isNew := name.Within(n, more.Name) && (!is || len(name.Labels(more.Name)) > len(name.Labels(want.Name)))
			if b := bigger.Find(n); isNew && b != more || !isNew && b != want {
				t.Fatal(s, b, want, more)
			}
			inner := tab.Find("\x01q" + n)
			if _, there := find(l, "\x01q"+n); is && (!there || !name.Within(inner.Name, got.Name)) {
				t.Fatal(s, inner, got)
			}
		}
	}
}

// R3: the zones are the table's own.
func TestOwn(t *testing.T) {
	l := []api.Zone{of("ex.", api.Strict, 0)}
	tab, _ := zone.New(l)
	l[0].Policy = api.Refuse
	if tab.Find(named("ex.")).Policy != api.Strict {
		t.Error("shared")
	}
}
