package cache_test

import (
	"math/rand"
	"slices"
	"strconv"
	"testing"

	"hustings/api"
	"hustings/cache"
	"hustings/name"
)

func named(s string) string {
	n, e := name.Parse(s)
	if e != api.OK {
		panic(s)
	}
	return n
}

func ask(s string) api.Question { return api.Question{Name: named(s), Type: api.A, Class: api.IN} }

// said is a verdict that can be told from others by a number.
func said(n int) api.Verdict {
	text := strconv.Itoa(n)
	return api.Verdict{Code: uint8(n % 2 * 3), Sets: []api.Set{{Name: named("a."), Type: 1, Class: 1, TTL: 7, Data: []string{text, "x"}}}, Soa: []api.Set{{Name: "soa", Data: []string{text}}}}
}

func same(a, b api.Verdict) bool {
	set := func(x, y api.Set) bool {
		return x.Name == y.Name && x.Type == y.Type && x.Class == y.Class && x.TTL == y.TTL && slices.Equal(x.Data, y.Data)
	}
	return a.Code == b.Code && slices.EqualFunc(a.Sets, b.Sets, set) && slices.EqualFunc(a.Soa, b.Soa, set)
}

func of(t *testing.T, n int) *cache.Cache {
	t.Helper()
	c, e := cache.New(n, 1, 2)
	if e != api.OK {
		t.Fatal(e)
	}
	return c
}

func keep(t *testing.T, c *cache.Cache, s string, n int, life, now int64) {
	t.Helper()
	if e := c.Keep(ask(s), said(n), life, now); e != api.OK {
		t.Fatal(e)
	}
}

func found(t *testing.T, c *cache.Cache, s string, now int64, n int, left int64) {
	t.Helper()
	if v, l, is := c.Find(ask(s), now); !is || l != left || !same(v, said(n)) {
		t.Errorf("%s at %d: %v %d %v", s, now, v, l, is)
	}
}

func missing(t *testing.T, c *cache.Cache, s string, now int64) {
	t.Helper()
	if v, l, is := c.Find(ask(s), now); is || l != 0 || !same(v, api.Verdict{}) {
		t.Errorf("%s at %d: %v %d %v", s, now, v, l, is)
	}
}

// P16.1, P16.2: the chapter's example.
func TestExample(t *testing.T) {
	c := of(t, 2)
	keep(t, c, "ex.", 1, 10, 0)
	keep(t, c, "a.", 2, 10, 1)
	found(t, c, "EX.", 4, 1, 6)
	keep(t, c, "b.", 3, 10, 5)
	if row := c.Row(); !slices.Equal(row, []api.Question{ask("ex."), ask("b.")}) || c.Len() != 2 {
		t.Error(row)
	}
	missing(t, c, "a.", 5)
	found(t, c, "ex.", 9, 1, 1)
	missing(t, c, "ex.", 10)
	if row := c.Row(); !slices.Equal(row, []api.Question{ask("b.")}) {
		t.Error(row)
	}
}

// P16.1: what is refused, and that this has no tick.
func TestRefused(t *testing.T) {
	for _, n := range []int{-1, api.MaxCache + 1, -1 << 63, 1<<63 - 1} {
		if c, e := cache.New(n, 0, 0); c != nil || e != api.ErrArg {
			t.Error(n, e)
		}
	}
	if _, e := cache.New(api.MaxCache, 0, 0); e != api.OK {
		t.Error(e)
	}
	c := of(t, 2)
	keep(t, c, "a.", 1, 5, 0)
	for _, n := range []string{"", "a", "\xC0\x00", "\x01a\x00\x00"} {
		if e := c.Keep(api.Question{Name: n, Type: 1, Class: 1}, said(1), 5, 100); e != api.ErrArg {
			t.Error(n, e)
		}
	}
	for _, life := range []int64{0, -1, -1 << 63} {
		if e := c.Keep(ask("b."), said(1), life, 100); e != api.ErrArg {
			t.Error(life, e)
		}
	}
	found(t, c, "a.", 4, 1, 1)
	// A Find that finds nothing has its tick all the same.
	if _, _, is := c.Find(api.Question{Name: "bad"}, 5); is || c.Len() != 0 {
		t.Error(c.Len())
	}
	keep(t, c, "a.", 1, 5, 5)
	missing(t, c, "b.", 10)
	if c.Len() != 0 {
		t.Error(c.Len())
	}
}

// P16.1, P16.2: nil, zero, and no capacity.
func TestNone(t *testing.T) {
	var none *cache.Cache
	if none.Keep(ask("a."), said(1), 1, 1) != api.ErrNil || none.Keep(api.Question{}, said(1), 0, 1) != api.ErrNil || none.Expire(9) != 0 || len(none.Row()) != 0 || none.Len() != 0 || none.Copy() != nil {
		t.Error("nil")
	}
	missing(t, none, "a.", 1)
	if at, is := none.Due(); at != 0 || is {
		t.Error(at, is)
	}
	for _, c := range []*cache.Cache{{}, of(t, 0), (&cache.Cache{}).Copy(), of(t, 0).Copy()} {
		if e := c.Keep(api.Question{}, said(1), 1, 1); e != api.ErrArg {
			t.Error(e)
		}
		keep(t, c, "a.", 1, 10, 1)
		missing(t, c, "a.", 1)
		if at, is := c.Due(); at != 0 || is || c.Len() != 0 || len(c.Row()) != 0 || c.Expire(99) != 0 {
			t.Error(at, is)
		}
	}
}

// P16.3, P16.7: ticks below the latest one, and beyond the last one.
func TestTicks(t *testing.T) {
	c := of(t, 4)
	keep(t, c, "a.", 1, 10, -5)
	found(t, c, "a.", -9, 1, 10)
	found(t, c, "a.", 3, 1, 7)
	found(t, c, "a.", 1, 1, 7)
	keep(t, c, "b.", 2, 10, 2)
	found(t, c, "b.", 0, 2, 10)
	if n := c.Expire(1); n != 0 {
		t.Error(n)
	}
	if at, is := c.Due(); at != 10 || !is {
		t.Error(at, is)
	}
	if n := c.Expire(9); n != 0 {
		t.Error(n)
	}
	if n := c.Expire(10); n != 1 || c.Len() != 1 {
		t.Error(n, c.Len())
	}
	missing(t, c, "a.", 0)
	if n := c.Expire(13); n != 1 {
		t.Error(n)
	}
	if at, is := c.Due(); at != 0 || is {
		t.Error(at, is)
	}
	keep(t, c, "c.", 3, 1<<63-1, 13)
	found(t, c, "c.", 13, 3, api.MaxTicks)
	keep(t, c, "d.", 4, 5, api.MaxTicks-5)
	keep(t, c, "e.", 5, 6, api.MaxTicks-5)
	if at, is := c.Due(); at != api.MaxTicks || !is {
		t.Error(at, is)
	}
	found(t, c, "d.", api.MaxTicks-1, 4, 1)
	missing(t, c, "d.", 1<<63-1)
	found(t, c, "e.", 1<<63-1, 5, 1)
	found(t, c, "c.", 1<<63-1, 3, 13)
}

// P16.1: a verdict for the same question replaces the previous one, with its time and its place.
func TestReplace(t *testing.T) {
	c := of(t, 2)
	keep(t, c, "a.", 1, 5, 0)
	keep(t, c, "b.", 2, 50, 0)
	keep(t, c, "A.", 3, 20, 1)
	if row := c.Row(); !slices.Equal(row, []api.Question{ask("b."), ask("a.")}) {
		t.Error(row)
	}
	found(t, c, "a.", 10, 3, 11)
	keep(t, c, "a.", 4, 2, 10)
	found(t, c, "a.", 11, 4, 1)
	missing(t, c, "a.", 12)
	found(t, c, "b.", 12, 2, 38)
}

// P16.6: which questions are the same.
func TestSameQuestion(t *testing.T) {
	c := of(t, 9)
	keep(t, c, "Ex.", 1, 50, 0)
	found(t, c, "eX.", 0, 1, 50)
	if row := c.Row(); !slices.Equal(row, []api.Question{ask("ex.")}) {
		t.Error(row)
	}
	for _, q := range []api.Question{{Name: named("ex."), Type: api.AAAA, Class: 1}, {Name: named("ex."), Type: api.A, Class: 2}, {Name: named("ex."), Type: 257, Class: 1}, {Name: named("ex."), Type: 1, Class: 257}, {Name: named("a.ex."), Type: 1, Class: 1}} {
		if _, _, is := c.Find(q, 0); is {
			t.Error(q)
		}
		if e := c.Keep(q, said(int(q.Type)), 50, 0); e != api.OK {
			t.Error(e)
		}
	}
	found(t, c, "ex.", 0, 1, 50)
	if c.Len() != 6 {
		t.Error(c.Len())
	}
}

// A memory is one verdict of the model.
type memory struct {
	q     api.Question
	n     int
	until int64
}

// model is the cache told plainly: verdicts by their use.
type model struct {
	l   []memory
	now int64
	cap int
}

func (m *model) tick(now int64) int {
	m.now = max(m.now, min(now, api.MaxTicks))
	was := len(m.l)
	m.l = slices.DeleteFunc(m.l, func(x memory) bool { return x.until <= m.now })
	return was - len(m.l)
}

func (m *model) at(q api.Question) int {
	q.Name = name.Fold(q.Name)
	return slices.IndexFunc(m.l, func(x memory) bool { return x.q == q })
}

func (m *model) use(x memory) {
	if i := m.at(x.q); i >= 0 {
		m.l = slices.Delete(m.l, i, i+1)
	} else if len(m.l) == m.cap {
		m.l = slices.Delete(m.l, 0, 1)
	}
	m.l = append(m.l, x)
}

func check(t *testing.T, c *cache.Cache, m *model) {
	t.Helper()
	var row []api.Question
	due := int64(-1)
	for _, x := range m.l {
		row = append(row, x.q)
		if due < 0 || x.until < due {
			due = x.until
		}
	}
	if got := c.Row(); !slices.Equal(got, row) || c.Len() != len(row) || len(row) > m.cap {
		t.Fatal(got, row)
	}
	if at, is := c.Due(); is != (due >= 0) || is && at != due || !is && at != 0 {
		t.Fatal(at, is, due)
	}
}

// P16.2 to P16.8: any calls, with several keys of the hash.
func TestAny(t *testing.T) {
	r := rand.New(rand.NewSource(1))
	for range 300 {
		m := &model{cap: 1 + r.Intn(5)}
		c, _ := cache.New(m.cap, r.Uint64(), r.Uint64())
		twin, _ := cache.New(m.cap, 0, 0)
		now := int64(0)
		for step := range 80 {
			now += int64(r.Intn(3) - r.Intn(2))
			q := api.Question{Name: named([]string{"a.", "A.", "b.", "c.ex.", "C.ex.", "d.", "."}[r.Intn(7)]), Type: uint16(1 + r.Intn(5)/4), Class: 1}
			if r.Intn(10) == 0 {
				old := c
				c = c.Copy()
				old.Keep(ask("other."), said(0), 100, now)
				old.Expire(now + 50)
			}
			switch r.Intn(5) {
			case 0:
				n := m.tick(now)
				if got := c.Expire(now); got != n {
					t.Fatal(got, n)
				}
				twin.Expire(now)
			case 1, 2:
				m.tick(now)
				v, left, is := c.Find(q, now)
				twin.Find(q, now)
				i := m.at(q)
				if is != (i >= 0) {
					t.Fatal(q, is, m.l)
				}
				if !is {
					if left != 0 || !same(v, api.Verdict{}) {
						t.Fatal(v, left)
					}
					break
				}
				x := m.l[i]
				if left != x.until-m.now || !same(v, said(x.n)) {
					t.Fatal(left, v, x)
				}
				m.use(x)
			default:
				life := int64(1 + r.Intn(12))
				if e := c.Keep(q, said(step), life, now); e != api.OK {
					t.Fatal(e)
				}
				twin.Keep(q, said(step), life, now)
				m.tick(now)
				q.Name = name.Fold(q.Name)
				m.use(memory{q, step, m.now + life})
			}
			check(t, c, m)
			check(t, twin, m)
		}
	}
}

// P16.4, P16.5: all of the greatest capacity is used.
func TestFull(t *testing.T) {
	c := of(t, api.MaxCache)
	for i := range 2 * api.MaxCache {
		keep(t, c, strconv.Itoa(i)+".", i, 1000, int64(i))
		if c.Len() != min(i+1, api.MaxCache) {
			t.Fatal(c.Len())
		}
	}
	for i := range api.MaxCache {
		missing(t, c, strconv.Itoa(i)+".", 0)
		found(t, c, strconv.Itoa(i+api.MaxCache)+".", 0, i+api.MaxCache, 1000-int64(api.MaxCache-1-i))
	}
}

// P16.8, R3: what is kept, found and listed is new memory.
func TestNewMemory(t *testing.T) {
	c := of(t, 2)
	v := said(1)
	c.Keep(ask("a."), v, 10, 0)
	v.Sets[0].Data[0], v.Soa[0].Name = "changed", "changed"
	found(t, c, "a.", 0, 1, 10)
	got, _, _ := c.Find(ask("a."), 0)
	got.Sets[0].Data[0], got.Soa[0].Data[0], got.Sets[0].TTL = "changed", "changed", 9
	found(t, c, "a.", 0, 1, 10)
	c.Row()[0].Type = 9
	found(t, c, "a.", 0, 1, 10)
	d := c.Copy()
	d.Keep(ask("a."), said(2), 99, 1)
	found(t, c, "a.", 0, 1, 10)
	c.Keep(ask("b."), said(3), 10, 0)
	missing(t, d, "b.", 1)
	found(t, d, "a.", 1, 2, 99)
}
