package hedge_test

import (
	"math/rand"
	"slices"
	"testing"

	"hustings/api"
	"hustings/hedge"
)

func of(t *testing.T, list []int, want, every, wait, tries int, now int64) *hedge.Plan {
	t.Helper()
	p, e := hedge.New(list, want, every, wait, tries, now)
	if e != api.OK {
		t.Fatal(e)
	}
	return p
}

func tick(t *testing.T, p *hedge.Plan, now int64, gone, sends []int) {
	t.Helper()
	g, s := p.Tick(now)
	if !slices.Equal(g, gone) || !slices.Equal(s, sends) {
		t.Errorf("Tick(%d): gone %v, sends %v, not %v, %v", now, g, s, gone, sends)
	}
}

func due(t *testing.T, p *hedge.Plan, want int64) {
	t.Helper()
	if at, is := p.Due(); is != (want >= 0) || is && at != want || !is && at != 0 {
		t.Errorf("Due: %d %v, not %d", at, is, want)
	}
}

// P22.1 to P22.3: the chapter's example.
func TestExample(t *testing.T) {
	p := of(t, []int{4, 2, 7}, 2, 10, 15, 2, 100)
	due(t, p, -1)
	if l := p.Begin(); !slices.Equal(l, []int{4, 2}) {
		t.Error(l)
	}
	due(t, p, 110)
	tick(t, p, 109, nil, nil)
	tick(t, p, 110, nil, []int{7})
	due(t, p, 115)
	tick(t, p, 115, nil, []int{4, 2})
	if !p.Close(2) || p.Close(2) {
		t.Error("close")
	}
	tick(t, p, 125, nil, []int{7})
	due(t, p, 130)
	tick(t, p, 130, []int{4}, nil)
	due(t, p, 140)
	tick(t, p, 140, []int{7}, nil)
	if p.Open() != 0 || p.Asked(4) != 2 || p.Asked(2) != 2 || p.Asked(7) != 2 || p.Asked(3) != 0 || p.Left() != 0 {
		t.Error(p.Open())
	}
	due(t, p, -1)
}

// P22.1: what is refused.
func TestRefused(t *testing.T) {
	nine := []int{0, 1, 2, 3, 4, 5, 6, 7, 8}
	type args struct {
		list                     []int
		want, every, wait, tries int
		now                      int64
	}
	good := []args{{nine, 9, 1000, 1000, 4, api.MaxTicks}, {nil, 1, 1, 1, 1, 0}, {[]int{8}, 9, 1, 1, 1, 0}, {nine, 1, 1, 1, 1, 5}}
	for _, x := range good {
		if p, e := hedge.New(x.list, x.want, x.every, x.wait, x.tries, x.now); p == nil || e != api.OK {
			t.Error(x, e)
		}
	}
	for _, x := range []args{
		{append(slices.Clone(nine), 9), 1, 1, 1, 1, 0}, {append(slices.Clone(nine), 0), 1, 1, 1, 1, 0}, {[]int{-1}, 1, 1, 1, 1, 0}, {[]int{9}, 1, 1, 1, 1, 0}, {[]int{1, 2, 1}, 1, 1, 1, 1, 0}, {[]int{0, 0}, 1, 1, 1, 1, 0},
		{nine, 0, 1, 1, 1, 0}, {nine, 10, 1, 1, 1, 0}, {nine, -1, 1, 1, 1, 0}, {nine, 1, 0, 1, 1, 0}, {nine, 1, 1001, 1, 1, 0}, {nine, 1, -1, 1, 1, 0}, {nine, 1, 1, 0, 1, 0}, {nine, 1, 1, 1001, 1, 0},
		{nine, 1, 1, 1, 0, 0}, {nine, 1, 1, 1, 5, 0}, {nine, 1, 1, 1, 1, -1}, {nine, 1, 1, 1, 1, api.MaxTicks + 1}, {nine, 1, 1, 1, 1, -1 << 63}, {[]int{1 << 62}, 1, 1, 1, 1, 0},
	} {
		if p, e := hedge.New(x.list, x.want, x.every, x.wait, x.tries, x.now); p != nil || e != api.ErrArg {
			t.Error(x, e)
		}
	}
}

// P22.1, P22.3: nil, a zero Plan, and an empty list.
func TestNone(t *testing.T) {
	var none *hedge.Plan
	if none.Copy() != nil {
		t.Error("nil")
	}
	empty := of(t, nil, 1, 1, 1, 1, 0)
	for _, p := range []*hedge.Plan{none, {}, empty, empty.Copy(), (&hedge.Plan{}).Copy()} {
		for range 2 {
			gone, sends := p.Tick(99)
			u, is := p.More(99)
			if len(gone) != 0 || len(sends) != 0 || u != 0 || is || p.Close(0) || p.Open() != 0 || p.Left() != 0 || p.Asked(0) != 0 {
				t.Error(gone, sends, u, is)
			}
			due(t, p, -1)
			if l := p.Begin(); len(l) != 0 {
				t.Error(l)
			}
		}
	}
}

// P22.1: before Begin nothing happens, and there is one Begin.
func TestBegin(t *testing.T) {
	p := of(t, []int{3, 1}, 5, 2, 3, 1, 10)
	tick(t, p, 50, nil, nil)
	if u, is := p.More(50); u != 0 || is || p.Close(3) || p.Open() != 0 || p.Left() != 2 || p.Asked(3) != 0 {
		t.Error(u, is)
	}
	if l := p.Begin(); !slices.Equal(l, []int{3, 1}) || p.Open() != 2 || p.Left() != 0 || p.Asked(3) != 1 {
		t.Error(l)
	}
	if l := p.Begin(); len(l) != 0 || p.Asked(3) != 1 {
		t.Error(l)
	}
	due(t, p, 13)
	tick(t, p, 12, nil, nil)
	tick(t, p, 13, []int{3, 1}, nil)
	tick(t, p, 99, nil, nil)
	due(t, p, -1)
}

// P22.2: a late Tick asks one, however many intervals have passed, and those again that waited too long.
func TestLate(t *testing.T) {
	p := of(t, []int{0, 1, 2, 3}, 1, 5, 100, 2, 0)
	p.Begin()
	tick(t, p, 14, nil, []int{1})
	due(t, p, 15)
	tick(t, p, 14, nil, nil)
	tick(t, p, 3, nil, nil)
	tick(t, p, 15, nil, []int{2})
	tick(t, p, 500, nil, []int{0, 1, 2, 3})
	tick(t, p, 500, nil, nil)
	due(t, p, 600)
	tick(t, p, 1000, []int{0, 1, 2}, []int{3})
	tick(t, p, 1100, []int{3}, nil)
	due(t, p, -1)
}

// P22.1: More asks at its tick, and reaches no k; its tick counts even if there is no next one.
func TestMore(t *testing.T) {
	p := of(t, []int{0, 1, 2}, 1, 10, 20, 1, 0)
	p.Begin()
	if u, is := p.More(12); u != 1 || !is || p.Open() != 2 || p.Left() != 1 {
		t.Error(u, is)
	}
	due(t, p, 13)
	tick(t, p, 5, nil, []int{2})
	due(t, p, 20)
	tick(t, p, 20, []int{0}, nil)
	due(t, p, 32)
	if u, is := p.More(40); u != 0 || is {
		t.Error(u, is)
	}
	due(t, p, 41)
	tick(t, p, 0, []int{1, 2}, nil)
	due(t, p, -1)
}

// P22.3: there is no tick beyond the last one.
func TestLastTick(t *testing.T) {
	p := of(t, []int{0, 1, 2}, 1, 10, 15, 1, api.MaxTicks-14)
	p.Begin()
	due(t, p, api.MaxTicks-4)
	tick(t, p, api.MaxTicks-4, nil, []int{1})
	due(t, p, -1)
	tick(t, p, 1<<63-1, nil, nil)
	due(t, p, -1)
	if u, is := p.More(1<<63 - 1); u != 2 || !is {
		t.Error(u, is)
	}
	q := of(t, []int{0}, 1, 10, 15, 1, api.MaxTicks-15)
	q.Begin()
	due(t, q, api.MaxTicks)
	tick(t, q, 1<<63-1, []int{0}, nil)
	full := of(t, []int{0, 1}, 1, 1, 1, 1, api.MaxTicks)
	full.Begin()
	due(t, full, -1)
	tick(t, full, 1<<63-1, nil, nil)
}

// P22.5, P22.6: tick by tick, nobody closed.
func TestTickByTick(t *testing.T) {
	r := rand.New(rand.NewSource(1))
	for range 500 {
		n := 1 + r.Intn(9)
		list := r.Perm(9)[:n]
		want, every, wait, tries := 1+r.Intn(9), 1+r.Intn(8), 1+r.Intn(8), 1+r.Intn(4)
		start := int64(r.Intn(50))
		p := of(t, list, want, every, wait, tries, start)
		first, gone := map[int]int64{}, map[int]int64{}
		for _, u := range p.Begin() {
			first[u] = start
		}
		for now := start + 1; now < start+120; now++ {
			g, s := p.Tick(now)
			for _, u := range s {
				if _, is := first[u]; !is {
					first[u] = now
				}
			}
			for _, u := range g {
				if _, is := gone[u]; is {
					t.Fatal("given up twice", u)
				}
				gone[u] = now
			}
		}
		for i, u := range list {
			at := start
			if i >= want {
				at += int64((i - want + 1) * every)
			}
			if first[u] != at || gone[u] != at+int64(tries*wait) || p.Asked(u) != tries {
				t.Fatal(u, first[u], gone[u], at)
			}
		}
		if p.Open() != 0 || p.Left() != 0 {
			t.Fatal(p.Open())
		}
	}
}

// one is an upstream of the model.
type one struct {
	up, times int
	last      int64
	open      bool
}

// model is the plan told plainly.
type model struct {
	l                       []one
	asked                   int
	want, tries             int
	every, wait, start, now int64
	seen                    map[int64]bool
	begun                   bool
}

func (m *model) next() []int {
	if m.asked == len(m.l) {
		return nil
	}
	x := &m.l[m.asked]
	m.asked++
	x.times, x.last, x.open = 1, m.now, true
	return []int{x.up}
}

func (m *model) tick(now int64) (gone, sends []int) {
	if !m.begun {
		return nil, nil
	}
	m.now = max(m.now, now)
	for i := range m.l {
		x := &m.l[i]
		if !x.open || m.now < x.last+m.wait {
			continue
		}
		if x.times == m.tries {
			x.open = false
			gone = append(gone, x.up)
			continue
		}
		x.times++
		x.last = m.now
		sends = append(sends, x.up)
	}
	fresh := false
	for k := int64(1); m.start+k*m.every <= m.now; k++ {
		fresh = fresh || !m.seen[k]
		m.seen[k] = true
	}
	if fresh {
		sends = append(sends, m.next()...)
	}
	return gone, sends
}

// P22.1 to P22.9: any calls.
func TestAny(t *testing.T) {
	r := rand.New(rand.NewSource(2))
	for range 600 {
		n := r.Intn(10)
		list := r.Perm(9)[:min(n, 9)]
		m := &model{want: 1 + r.Intn(4), tries: 1 + r.Intn(4), every: int64(1 + r.Intn(9)), wait: int64(1 + r.Intn(9)), start: int64(r.Intn(9)), seen: map[int64]bool{}}
		m.now = m.start
		for _, u := range list {
			m.l = append(m.l, one{up: u})
		}
		p := of(t, list, m.want, int(m.every), int(m.wait), m.tries, m.start)
		now := m.start
		for range 60 {
			now += int64(r.Intn(6) - 1)
			if r.Intn(8) == 0 {
				old := p
				p = p.Copy()
				old.Begin()
				old.More(now + 3)
				old.Tick(now + 50)
				old.Close(3)
			}
			switch r.Intn(7) {
			case 0:
				var want []int
				if !m.begun {
					m.begun = true
					for range min(m.want, len(list)) {
						want = append(want, m.next()...)
					}
				}
				if l := p.Begin(); !slices.Equal(l, want) {
					t.Fatal(l, want)
				}
			case 1:
				var want []int
				if m.begun {
					m.now = max(m.now, now)
					want = m.next()
				}
				u, is := p.More(now)
				if is != (len(want) == 1) || is && u != want[0] || !is && u != 0 {
					t.Fatal(u, is, want)
				}
			case 2:
				u := r.Intn(11) - 1
				i := slices.IndexFunc(m.l, func(x one) bool { return x.up == u && x.open })
				if p.Close(u) != (i >= 0) {
					t.Fatal(u)
				}
				if i >= 0 {
					m.l[i].open = false
				}
			default:
				if at, is := p.Due(); is && now >= at && r.Intn(2) == 0 {
					q := p.Copy()
					if g, s := q.Tick(at - 1); at-1 > m.now && len(g)+len(s) > 0 {
						t.Fatal("something before Due", at, g, s)
					}
					q = p.Copy()
					if g, s := q.Tick(at); len(g)+len(s) == 0 {
						t.Fatal("nothing at Due", at)
					}
				}
				g, s := p.Tick(now)
				if g2, s2 := m.tick(now); !slices.Equal(g, g2) || !slices.Equal(s, s2) {
					t.Fatal(g, s, g2, s2)
				}
			}
			check(t, p, m)
		}
	}
}

func check(t *testing.T, p *hedge.Plan, m *model) {
	t.Helper()
	open := 0
	for _, x := range m.l {
		if x.open {
			open++
		}
		if p.Asked(x.up) != x.times || x.times > m.tries {
			t.Fatal(x, p.Asked(x.up))
		}
	}
	if p.Open() != open || p.Left() != len(m.l)-m.asked || p.Asked(-1) != 0 {
		t.Fatal(p.Open(), open, p.Left())
	}
	at, is := p.Due()
	if is && at <= m.now {
		t.Fatal("Due is past", at)
	}
	if !is {
		q := p.Copy()
		for now := m.now + 1; now < m.now+40; now++ {
			if g, s := q.Tick(now); len(g)+len(s) > 0 {
				t.Fatal("something without Due", now, g, s)
			}
		}
		return
	}
	q := p.Copy()
	for now := m.now + 1; now < at; now++ {
		if g, s := q.Tick(now); len(g)+len(s) > 0 {
			t.Fatal("something before Due", now, at, g, s)
		}
	}
	if g, s := q.Tick(at); len(g)+len(s) == 0 {
		t.Fatal("nothing at Due", at)
	}
}

// R3: the list is the plan's own.
func TestOwn(t *testing.T) {
	list := []int{4, 2, 7}
	p := of(t, list, 2, 10, 15, 2, 0)
	list[0] = 8
	if l := p.Begin(); !slices.Equal(l, []int{4, 2}) {
		t.Error(l)
	}
}
