package ask_test

import (
	"math/rand"
	"reflect"
	"slices"
	"testing"

	"hustings/api"
	"hustings/ask"
	"hustings/merge"
	"hustings/name"
	"hustings/tally"
)

func named(s string) string {
	n, e := name.Parse(s)
	if e != api.OK {
		panic(s)
	}
	return n
}

var q = api.Question{Name: named("ex."), Type: api.A, Class: api.IN}

func said(n int) api.Verdict {
	return api.Verdict{Sets: []api.Set{{Name: named("ex."), Type: api.A, Class: api.IN, Data: []string{"\x0a\x00\x00" + string([]byte{byte(n)})}}}}
}

func config(ups, hedge, wait, tries, deadline int) api.Config {
	return api.Config{Ups: ups, Hedge: hedge, Wait: wait, Tries: tries, Deadline: deadline, Rest: 1, Limit: 1, Flights: 1, Waiters: 1, Size: 512}
}

func zone(policy uint8, trust uint16) api.Zone {
	return api.Zone{Name: "\x00", Policy: policy, Trust: trust}
}

func same(a, b ask.Did) bool {
	set := func(x, y api.Set) bool {
		return x.Name == y.Name && x.Type == y.Type && x.Class == y.Class && x.TTL == y.TTL && slices.Equal(x.Data, y.Data)
	}
	return slices.Equal(a.Sends, b.Sends) && slices.Equal(a.Gone, b.Gone) && a.Over == b.Over && a.Done == b.Done && a.Time == b.Time && slices.Equal(a.Agree, b.Agree) &&
		slices.Equal(a.Dissent, b.Dissent) && a.Verdict.Code == b.Verdict.Code && slices.EqualFunc(a.Verdict.Sets, b.Verdict.Sets, set) && slices.EqualFunc(a.Verdict.Soa, b.Verdict.Soa, set)
}

func is(t *testing.T, got, want ask.Did) {
	t.Helper()
	if !same(got, want) {
		t.Errorf("%+v, not %+v", got, want)
	}
}

func of(t *testing.T, z api.Zone, list []int, c api.Config, now int64, want ask.Did) *ask.Ask {
	t.Helper()
	a, did, e := ask.New(q, z, list, c, now)
	if e != api.OK {
		t.Fatal(e)
	}
	is(t, did, want)
	return a
}

func ups(l ...int) []int { return l }

func due(t *testing.T, a *ask.Ask, want int64) {
	t.Helper()
	if at, is := a.Due(); is != (want >= 0) || is && at != want || !is && at != 0 {
		t.Errorf("Due: %d %v, not %d", at, is, want)
	}
}

// P26.1, P26.2, P26.5: the chapter's example.
func TestExample(t *testing.T) {
	c := config(3, 10, 5, 1, 20)
	a := of(t, zone(api.Strict, 0), ups(2, 0, 1), c, 100, ask.Did{Sends: ups(2, 0)})
	due(t, a, 105)
	is(t, a.Vote(2, said(1), 7, 101), ask.Did{})
	is(t, a.Vote(0, said(2), 8, 102), ask.Did{Sends: ups(1)})
	b := a.Copy()
	is(t, a.Vote(1, said(1), 9, 103), ask.Did{Over: true, Done: true, Verdict: said(1), Time: 7, Agree: ups(1, 2), Dissent: ups(0)})
	if !a.Over() || b.Over() {
		t.Error("over")
	}
	due(t, a, -1)
	is(t, b.Pass(1, 103), ask.Did{Over: true})
	for _, x := range []*ask.Ask{a, b} {
		is(t, x.Vote(1, said(1), 9, 104), ask.Did{})
		is(t, x.Pass(1, 104), ask.Did{})
		is(t, x.Tick(104), ask.Did{})
		is(t, x.Tick(999), ask.Did{})
	}
}

// P26.1: what is refused.
func TestRefused(t *testing.T) {
	c := config(3, 2, 5, 2, 20)
	bad := c
	bad.Ups = 4
	strict := zone(api.Strict, 0)
	for i, x := range []struct {
		q    api.Question
		z    api.Zone
		list []int
		c    api.Config
		now  int64
		e    api.Errno
	}{
		{q, strict, ups(0, 1, 2), bad, 0, api.ErrArg}, {api.Question{Name: "ex", Type: 1, Class: 1}, strict, ups(0), c, 0, api.ErrArg}, {q, zone(api.Refuse, 0), ups(0), c, 0, api.ErrArg}, {q, zone(0, 0), ups(0), c, 0, api.ErrArg},
		{q, zone(5, 0), ups(0), c, 0, api.ErrArg}, {q, strict, ups(3), c, 0, api.ErrArg}, {q, strict, ups(-1), c, 0, api.ErrArg}, {q, strict, ups(0, 1, 0), c, 0, api.ErrArg}, {q, strict, ups(0), c, -1, api.ErrArg},
		{q, strict, ups(0), c, api.MaxTicks + 1, api.ErrArg}, {q, strict, ups(1 << 62), c, 0, api.ErrArg}, {q, zone(api.Trusted, 1), ups(1, 1), c, 0, api.ErrArg}, {q, zone(api.Trusted, 1), ups(1, 3), c, 0, api.ErrArg},
		{q, strict, nil, c, -1, api.ErrArg}, {q, strict, nil, c, 0, api.ErrNone}, {q, zone(api.Union, 0), nil, c, 0, api.ErrNone}, {q, zone(api.Trusted, 4), ups(0, 1), c, 0, api.ErrNone}, {q, zone(api.Trusted, 0), ups(0, 1), c, 0, api.ErrNone},
		{api.Question{}, strict, nil, c, 0, api.ErrArg},
	} {
		a, did, e := ask.New(x.q, x.z, x.list, x.c, x.now)
		if a != nil || e != x.e || !same(did, ask.Did{}) {
			t.Errorf("%d: %v %v", i, did, e)
		}
	}
	for _, now := range []int64{0, api.MaxTicks} {
		if _, _, e := ask.New(q, strict, ups(2, 1, 0), c, now); e != api.OK {
			t.Error(now, e)
		}
	}
}

// P26.3: nil, and a zero Ask.
func TestNone(t *testing.T) {
	var none *ask.Ask
	if none.Copy() != nil {
		t.Error("nil")
	}
	var zero ask.Ask
	if !zero.Over() {
		t.Error("a zero Ask is not over")
	}
	for _, a := range []*ask.Ask{none, &zero, zero.Copy()} {
		is(t, a.Vote(0, said(1), 1, 1), ask.Did{})
		is(t, a.Pass(0, 1), ask.Did{})
		is(t, a.Tick(1), ask.Did{})
		due(t, a, -1)
		if a.Open() != 0 {
			t.Error(a.Open())
		}
	}
}

// P26.1, P26.4: silence, up to the deadline.
func TestSilence(t *testing.T) {
	a := of(t, zone(api.Strict, 0), ups(1, 2, 0), config(3, 2, 5, 2, 20), 0, ask.Did{Sends: ups(1, 2)})
	due(t, a, 2)
	is(t, a.Tick(1), ask.Did{})
	is(t, a.Tick(2), ask.Did{Sends: ups(0)})
	due(t, a, 5)
	is(t, a.Tick(5), ask.Did{Sends: ups(1, 2)})
	is(t, a.Tick(7), ask.Did{Sends: ups(0)})
	due(t, a, 10)
	b := a.Copy()
	is(t, a.Tick(10), ask.Did{Gone: ups(1, 2), Over: true})
	due(t, a, -1)
	is(t, a.Tick(20), ask.Did{})
	if a.Open() != 1 || !a.Over() {
		t.Error(a.Open())
	}
	// The deadline comes before all else.
	is(t, b.Tick(20), ask.Did{Over: true})
	is(t, b.Tick(21), ask.Did{})
	c := of(t, zone(api.Strict, 0), ups(0), config(1, 1, 5, 1, 5), 10, ask.Did{Sends: ups(0)})
	due(t, c, 15)
	is(t, c.Tick(15), ask.Did{Over: true})
	d := of(t, zone(api.Strict, 0), ups(0), config(1, 1, 5, 1, 5), 10, ask.Did{Sends: ups(0)})
	is(t, d.Tick(1<<62), ask.Did{Over: true})
	e := of(t, zone(api.Strict, 0), ups(0), config(1, 1, 5, 1, 6), 10, ask.Did{Sends: ups(0)})
	is(t, e.Tick(15), ask.Did{Gone: ups(0), Over: true})
}

// P26.1, P26.7: a list that is too short fails at once; ballots of those that are not open do nothing.
func TestShortList(t *testing.T) {
	c := config(5, 2, 5, 1, 20)
	a, did, e := ask.New(q, zone(api.Strict, 0), ups(4, 0), c, 0)
	is(t, did, ask.Did{Sends: ups(4, 0), Over: true})
	if e != api.OK || !a.Over() {
		t.Error(e)
	}
	b := of(t, zone(api.Strict, 0), ups(4, 0, 3), c, 0, ask.Did{Sends: ups(4, 0, 3)})
	is(t, b.Vote(1, said(1), 1, 90), ask.Did{})
	is(t, b.Vote(-1, said(1), 1, 90), ask.Did{})
	is(t, b.Pass(9, 90), ask.Did{})
	is(t, b.Vote(4, said(1), 1, 1), ask.Did{})
	is(t, b.Vote(4, said(2), 1, 90), ask.Did{})
	is(t, b.Pass(4, 90), ask.Did{})
	due(t, b, 5)
	is(t, b.Vote(0, said(2), 1, 1), ask.Did{Over: true})
}

// P26.8: the policy Trusted.
func TestTrusted(t *testing.T) {
	c := config(5, 3, 5, 1, 30)
	a := of(t, zone(api.Trusted, 0b10101), ups(3, 4, 1, 0, 2), c, 0, ask.Did{Sends: ups(4)})
	is(t, a.Vote(3, said(1), 1, 1), ask.Did{})
	b := a.Copy()
	is(t, a.Pass(4, 2), ask.Did{Sends: ups(0)})
	is(t, a.Tick(3), ask.Did{Sends: ups(2)})
	is(t, a.Vote(2, said(9), 4, 4), ask.Did{Over: true, Done: true, Verdict: said(9), Time: 4})
	is(t, b.Vote(4, said(8), 5, 2), ask.Did{Over: true, Done: true, Verdict: said(8), Time: 5})
	d := of(t, zone(api.Trusted, 0b100), ups(2, 1, 0), config(3, 3, 5, 1, 30), 0, ask.Did{Sends: ups(2)})
	is(t, d.Pass(2, 1), ask.Did{Over: true})
}

// P26.8: the policy Union.
func TestUnion(t *testing.T) {
	c := config(3, 3, 5, 1, 30)
	both := said(1)
	both.Sets[0].Data = append(both.Sets[0].Data, said(2).Sets[0].Data...)
	a := of(t, zone(api.Union, 0), ups(0, 1, 2), c, 0, ask.Did{Sends: ups(0, 1)})
	is(t, a.Vote(1, said(2), 6, 1), ask.Did{})
	b, d := a.Copy(), a.Copy()
	is(t, a.Vote(0, said(1), 4, 2), ask.Did{Over: true, Done: true, Verdict: both, Time: 4})
	is(t, b.Pass(0, 2), ask.Did{Sends: ups(2)})
	is(t, b.Vote(2, said(2), 7, 2), ask.Did{Over: true, Done: true, Verdict: said(2), Time: 6})
	is(t, d.Pass(0, 2), ask.Did{Sends: ups(2)})
	is(t, d.Pass(2, 2), ask.Did{Over: true})
}

// P26.1, P26.3: ticks of ballots count.
func TestTicks(t *testing.T) {
	a := of(t, zone(api.Strict, 0), ups(0, 1, 2, 3, 4), config(5, 10, 20, 1, 90), 0, ask.Did{Sends: ups(0, 1, 2)})
	due(t, a, 10)
	is(t, a.Vote(0, said(1), 1, 15), ask.Did{})
	due(t, a, 16)
	is(t, a.Pass(1, 3), ask.Did{Sends: ups(3)})
	due(t, a, 16)
	is(t, a.Tick(4), ask.Did{Sends: ups(4)})
	due(t, a, 20)
	is(t, a.Vote(2, said(2), 1, 2), ask.Did{})
	is(t, a.Tick(34), ask.Did{})
	is(t, a.Tick(35), ask.Did{Gone: ups(3, 4), Over: true})
	late := of(t, zone(api.Strict, 0), ups(0), config(1, 10, 20, 1, 20), api.MaxTicks-5, ask.Did{Sends: ups(0)})
	due(t, late, -1)
	is(t, late.Tick(1<<63-1), ask.Did{})
	is(t, late.Vote(0, said(1), 5, 1<<63-1), ask.Did{Over: true, Done: true, Verdict: said(1), Time: 5, Agree: ups(0)})
	last := of(t, zone(api.Strict, 0), ups(0), config(1, 10, 20, 1, 20), api.MaxTicks-20, ask.Did{Sends: ups(0)})
	due(t, last, api.MaxTicks)
	is(t, last.Tick(1<<63-1), ask.Did{Over: true})
	// A ballot that comes after the deadline, without a tick between, is one.
	slow := of(t, zone(api.Strict, 0), ups(0), config(1, 10, 20, 1, 20), 0, ask.Did{Sends: ups(0)})
	is(t, slow.Vote(0, said(1), 5, 99), ask.Did{Over: true, Done: true, Verdict: said(1), Time: 5, Agree: ups(0)})
}

// model is an inquiry told plainly.
type model struct {
	policy            uint8
	list              []int
	asked, times      int // asked of the list; times is Tries
	want, every, wait int
	start, now, end   int
	last, count       map[int]int
	open              map[int]bool
	votes             []tally.Vote
	seen              int
	over              bool
}

func (m *model) send(did *ask.Did, u int) {
	did.Sends = append(did.Sends, u)
	m.last[u], m.open[u] = m.now, true
	m.count[u]++
}

func (m *model) opens() int {
	n := 0
	for _, is := range m.open {
		if is {
			n++
		}
	}
	return n
}

// most returns the votes for the verdict that has the most of them, and how many.
func (m *model) most() []tally.Vote {
	var best []tally.Vote
	for _, v := range m.votes {
		var l []tally.Vote
		for _, x := range m.votes {
			if reflect.DeepEqual(v.Verdict, x.Verdict) {
				l = append(l, x)
			}
		}
		if len(l) > len(best) {
			best = l
		}
	}
	return best
}

func (m *model) evaluate(did *ask.Did) {
	for {
		n := len(m.votes)
		if m.policy == api.Strict {
			n = len(m.most())
		}
		if n >= m.want {
			m.over, did.Over, did.Done = true, true, true
			m.decide(did)
			return
		}
		if m.opens()+n >= m.want {
			return
		}
		if m.asked == len(m.list) {
			m.over, did.Over = true, true
			return
		}
		m.asked++
		m.send(did, m.list[m.asked-1])
	}
}

func (m *model) decide(did *ask.Did) {
	switch m.policy {
	case api.Trusted:
		did.Verdict, did.Time = m.votes[0].Verdict, m.votes[0].Time
	case api.Union:
		did.Verdict, did.Time, _ = merge.Union(q, m.votes)
	default:
		l := m.most()
		did.Verdict, did.Time = l[0].Verdict, l[0].Time
		for _, v := range m.votes {
			if reflect.DeepEqual(v.Verdict, did.Verdict) {
				did.Agree = append(did.Agree, v.Up)
				did.Time = min(did.Time, v.Time)
			} else {
				did.Dissent = append(did.Dissent, v.Up)
			}
		}
		slices.Sort(did.Agree)
		slices.Sort(did.Dissent)
	}
}

func (m *model) ballot(u int, v *tally.Vote, now int) ask.Did {
	var did ask.Did
	if m.over || !m.open[u] {
		return did
	}
	m.now = max(m.now, now)
	m.open[u] = false
	if v != nil {
		m.votes = append(m.votes, *v)
	}
	m.evaluate(&did)
	return did
}

func (m *model) tick(now int) ask.Did {
	var did ask.Did
	if m.over {
		return did
	}
	m.now = max(m.now, now)
	if m.now >= m.end {
		m.over = true
		return ask.Did{Over: true}
	}
	for _, u := range m.list {
		switch {
		case !m.open[u] || m.now-m.last[u] < m.wait:
		case m.count[u] == m.times:
			m.open[u] = false
			did.Gone = append(did.Gone, u)
		default:
			m.send(&did, u)
		}
	}
	if k := (m.now - m.start) / m.every; k > m.seen {
		m.seen = k
		if m.asked < len(m.list) {
			m.asked++
			m.send(&did, m.list[m.asked-1])
		}
	}
	m.evaluate(&did)
	return did
}

func random(r *rand.Rand) (*model, api.Zone, []int, api.Config) {
	n := 1 + 2*r.Intn(4)
	c := config(n, 1+r.Intn(6), 1+r.Intn(6), 1+r.Intn(3), 0)
	c.Deadline = n/2*c.Hedge + c.Tries*c.Wait + r.Intn(10)
	z := zone(uint8(1+r.Intn(3)), 0)
	list := r.Perm(n)
	if r.Intn(4) == 0 {
		list = list[:1+r.Intn(n)]
	}
	m := &model{policy: z.Policy, list: list, times: c.Tries, want: n/2 + 1, every: c.Hedge, wait: c.Wait, start: r.Intn(50), last: map[int]int{}, count: map[int]int{}, open: map[int]bool{}}
	if z.Policy == api.Trusted {
		z.Trust = uint16(1<<list[0]) | uint16(r.Intn(1<<n))
		m.want = 1
		m.list = slices.DeleteFunc(slices.Clone(list), func(u int) bool { return z.Trust>>u&1 == 0 })
	}
	m.now, m.end = m.start, m.start+c.Deadline
	return m, z, list, c
}

// P26.1 to P26.9: any ballots and ticks.
func TestAny(t *testing.T) {
	r := rand.New(rand.NewSource(1))
	decided, failed := 0, 0
	for range 3000 {
		m, z, list, c := random(r)
		var want ask.Did
		for m.asked < min(m.want, len(m.list)) {
			m.asked++
			m.send(&want, m.list[m.asked-1])
		}
		m.evaluate(&want)
		a := of(t, z, list, c, int64(m.start), want)
		now := m.start
		sent := map[int]int{}
		for step := range 60 {
			for _, u := range want.Sends {
				sent[u]++
				if sent[u] > c.Tries || !slices.Contains(m.list, u) {
					t.Fatal("asked too often", u)
				}
			}
			if want.Done {
				decided++
			} else if want.Over {
				failed++
			}
			if r.Intn(6) == 0 {
				old := a
				a = a.Copy()
				old.Tick(int64(now) + 9)
				old.Vote(m.list[0], said(99), 1, int64(now))
				old.Pass(m.list[0], int64(now))
			}
			check(t, a, m)
			now += r.Intn(3)
			u := r.Intn(c.Ups)
			var got ask.Did
			switch r.Intn(5) {
			case 0:
				v := tally.Vote{Up: u, Verdict: said(r.Intn(2)), Time: uint32(step)}
				want, got = m.ballot(u, &v, now), a.Vote(u, v.Verdict, v.Time, int64(now))
			case 1:
				if r.Intn(2) == 0 {
					want, got = m.ballot(u, nil, now), a.Pass(u, int64(now))
					break
				}
				fallthrough
			default:
				want, got = m.tick(now), a.Tick(int64(now))
			}
			if !same(got, want) {
				t.Fatalf("%+v, not %+v", got, want)
			}
		}
	}
	if decided < 500 || failed < 500 {
		t.Error(decided, failed)
	}
}

func check(t *testing.T, a *ask.Ask, m *model) {
	t.Helper()
	if a.Over() != m.over || !m.over && a.Open() != m.opens() {
		t.Fatal(a.Over(), a.Open(), m.opens())
	}
	at, there := a.Due()
	if there == m.over || there && at <= int64(m.now) {
		t.Fatal(at, there)
	}
	if !there {
		return
	}
	for now := int64(m.now) + 1; now <= at; now++ {
		b := a.Copy()
		if did := b.Tick(now); same(did, ask.Did{}) != (now < at) {
			t.Fatal("Due", at, now, did)
		}
	}
}

// P26.4, P26.6: enough truthful ones that reply in time decide it, whatever the others do.
func TestProgress(t *testing.T) {
	r := rand.New(rand.NewSource(2))
	for range 1500 {
		n := 3 + 2*r.Intn(4)
		c := config(n, 1+r.Intn(6), 2+r.Intn(6), 1+r.Intn(3), 0)
		c.Deadline = n/2*c.Hedge + c.Tries*c.Wait + r.Intn(5)
		list := r.Perm(n)
		truthful := map[int]bool{}
		for _, u := range r.Perm(n)[:n/2+1] {
			truthful[u] = true
		}
		a, did, e := ask.New(q, zone(api.Strict, 0), list, c, 0)
		if e != api.OK {
			t.Fatal(e)
		}
		replies := map[int][]int{}
		asked := map[int]bool{}
		now := 0
		var done ask.Did
		take := func(did ask.Did) {
			for _, u := range did.Sends {
				if !asked[u] && truthful[u] {
					at := now + 1 + r.Intn(c.Wait-1)
					replies[at] = append(replies[at], u)
				}
				asked[u] = true
			}
			if did.Over {
				done = did
			}
		}
		take(did)
		for ; !a.Over() && now <= c.Deadline; now++ {
			if now > 0 {
				take(a.Tick(int64(now)))
			}
			for len(replies[now]) > 0 {
				u := replies[now][0]
				replies[now] = replies[now][1:]
				take(a.Vote(u, said(1), 5, int64(now)))
			}
			if u := r.Intn(n); !truthful[u] && r.Intn(3) == 0 {
				if r.Intn(2) == 0 {
					take(a.Vote(u, said(2+r.Intn(2)), 5, int64(now)))
				} else {
					take(a.Pass(u, int64(now)))
				}
			}
		}
		if !done.Done || !same(ask.Did{Verdict: done.Verdict}, ask.Did{Verdict: said(1)}) || len(done.Agree) != n/2+1 {
			t.Fatalf("%+v", done)
		}
	}
}

// R3: new memory, and arguments stay.
func TestNewMemory(t *testing.T) {
	list := ups(2, 0, 1)
	v := said(1)
	a := of(t, zone(api.Trusted, 3), list, config(3, 10, 5, 1, 20), 0, ask.Did{Sends: ups(0)})
	if !slices.Equal(list, ups(2, 0, 1)) {
		t.Error(list)
	}
	b := of(t, zone(api.Strict, 0), list, config(3, 10, 5, 1, 20), 0, ask.Did{Sends: ups(2, 0)})
	list[0], list[1] = 9, 9
	b.Vote(2, v, 5, 1)
	v.Sets[0].Data[0] = "changed"
	is(t, b.Vote(0, said(1), 5, 1), ask.Did{Over: true, Done: true, Verdict: said(1), Time: 5, Agree: ups(0, 2)})
	v = said(1)
	did := a.Vote(0, v, 5, 1)
	did.Verdict.Sets[0].Data[0] = "changed"
	if v.Sets[0].Data[0] == "changed" {
		t.Error("shared")
	}
}
