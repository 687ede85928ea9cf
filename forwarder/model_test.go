package forwarder_test

import (
	"slices"
	"sort"

	"hustings/answer"
	"hustings/api"
	"hustings/flight"
	"hustings/forwarder"
	"hustings/heard"
	"hustings/intake"
	"hustings/merge"
	"hustings/name"
	"hustings/tally"
	"hustings/verdict"
)

// An inquiry is one question of the model that is in progress.
type inquiry struct {
	q       api.Question
	policy  uint8
	list    []int
	asked   int
	want    int
	start   int64
	seen    int64
	last    map[int]int64
	times   map[int]int
	open    map[int]bool
	votes   []tally.Vote
	waiters []flight.Waiter
}

// A peer is what the model has of an upstream.
type peer struct {
	score, agree, dissent, silent int
	rests, trial                  bool
	until                         int64
}

type memory struct {
	q     api.Question
	v     api.Verdict
	until int64
}

type key struct {
	up int
	id uint16
}

// plain is the forwarder as DOC.md tells it (S5 to S10), tick by tick, with plain lists.
type plain struct {
	c      api.Config
	tape   []uint64
	seed   uint64
	used   int
	peers  []peer
	cache  []memory // the least recently used one first
	under  []*inquiry
	ids    map[key]*inquiry
	counts [12]int
	now    int64
	outs   []forwarder.Out
}

func newPlain(c api.Config, seed uint64, tape []uint64) *plain {
	p := &plain{c: c, seed: seed, tape: tape, ids: map[key]*inquiry{}}
	for range c.Ups {
		p.peers = append(p.peers, peer{score: 100})
	}
	return p
}

func (p *plain) draw() uint64 {
	p.used++
	if p.used <= len(p.tape) {
		return p.tape[p.used-1]
	}
	p.seed += 0x9E3779B97F4A7C15
	z := p.seed
	z = (z ^ z>>30) * 0xBF58476D1CE4E5B9
	z = (z ^ z>>27) * 0x94D049BB133111EB
	return z ^ z>>31
}

func (p *plain) count(i int) {
	if p.counts[i] < 65535 {
		p.counts[i]++
	}
}

func (p *plain) reply(to int, data string) {
	p.outs = append(p.outs, forwarder.Out{To: to, Data: data})
}

func (p *plain) code(to int, c intake.Came, code int) {
	if code == 2 {
		p.count(4)
	} else {
		p.count(5)
	}
	p.reply(to, answer.Code(c, code, p.c.Size))
}

func (p *plain) free(x *inquiry, up int) {
	for k, y := range p.ids {
		if y == x && (up < 0 || k.up == up) {
			delete(p.ids, k)
		}
	}
}

func (p *plain) dissent(u int) {
	x := &p.peers[u]
	x.dissent = min(65535, x.dissent+1)
	x.score = max(0, x.score-10)
	others := 0
	for i, y := range p.peers {
		if i != u && !y.rests {
			others++
		}
	}
	if x.score < p.c.Limit && !x.rests && others > p.c.Ups/2 {
		x.rests, x.trial, x.until = true, false, p.now+int64(p.c.Rest)
	}
}

func (p *plain) zone(n string) api.Zone {
	best := api.Zone{Name: "\x00", Policy: api.Strict}
	labels := -1
	for _, z := range p.c.Zones {
		if l := len(name.Labels(z.Name)); name.Within(n, z.Name) && l > labels {
			best, labels = z, l
		}
	}
	return best
}

func fold(q api.Question) api.Question {
	q.Name = name.Fold(q.Name)
	return q
}

func (p *plain) client(from int, data string) {
	p.count(0)
	c := intake.Look(data)
	if c.Kind == intake.Drop {
		p.count(1)
		return
	}
	if c.Kind == intake.Tell {
		p.code(from, c, c.Code)
		return
	}
	q := fold(c.Question)
	z := p.zone(q.Name)
	if z.Policy == api.Refuse {
		p.code(from, c, 5)
		return
	}
	if i := slices.IndexFunc(p.cache, func(m memory) bool { return m.q == q }); i >= 0 {
		m := p.cache[i]
		p.cache = append(slices.Delete(p.cache, i, i+1), m)
		p.count(2)
		p.reply(from, answer.Of(c, m.v, uint32(m.until-p.now), p.c.Size))
		return
	}
	w := flight.Waiter{Client: from, Data: data}
	for _, x := range p.under {
		if x.q == q {
			if len(x.waiters) == p.c.Waiters {
				p.code(from, c, 2)
				return
			}
			p.count(6)
			x.waiters = append(x.waiters, w)
			return
		}
	}
	if len(p.under) == p.c.Flights {
		p.code(from, c, 2)
		return
	}
	list := p.order()
	x := &inquiry{q: q, policy: z.Policy, want: p.c.Ups/2 + 1, start: p.now, last: map[int]int64{}, times: map[int]int{}, open: map[int]bool{}, waiters: []flight.Waiter{w}}
	if z.Policy == api.Trusted {
		x.want = 1
		list = slices.DeleteFunc(list, func(u int) bool { return z.Trust&(1<<u) == 0 })
	}
	if len(list) == 0 {
		p.code(from, c, 2)
		return
	}
	x.list = list
	p.under = append(p.under, x)
	for x.asked < x.want && x.asked < len(list) {
		p.another(x)
	}
	p.evaluate(x)
}

func (p *plain) order() []int {
	var l []int
	for u, x := range p.peers {
		if !x.rests {
			l = append(l, u)
		}
	}
	for i := len(l) - 1; i > 0; i-- {
		j := int(p.draw() % uint64(i+1))
		l[i], l[j] = l[j], l[i]
	}
	sort.SliceStable(l, func(i, j int) bool {
		a, b := p.peers[l[i]], p.peers[l[j]]
		if a.trial != b.trial {
			return b.trial
		}
		return a.score > b.score
	})
	return l
}

func (p *plain) another(x *inquiry) {
	x.asked++
	p.send(x, x.list[x.asked-1])
}

func (p *plain) send(x *inquiry, u int) {
	x.times[u]++
	x.last[u], x.open[u] = p.now, true
	id := uint16(p.draw())
	for p.ids[key{u, id}] != nil {
		id++
	}
	p.ids[key{u, id}] = x
	s, _ := heard.Query(x.q, id, p.c.Size)
	p.count(7)
	p.outs = append(p.outs, forwarder.Out{Up: true, To: u, Data: s})
}

// best returns the votes for the verdict that has the most.
func (x *inquiry) best() []tally.Vote {
	var best []tally.Vote
	for _, v := range x.votes {
		var l []tally.Vote
		for _, y := range x.votes {
			if verdict.Same(v.Verdict, y.Verdict) {
				l = append(l, y)
			}
		}
		if len(l) > len(best) {
			best = l
		}
	}
	return best
}

func (p *plain) evaluate(x *inquiry) {
	for {
		have := len(x.votes)
		if x.policy == api.Strict {
			have = len(x.best())
		}
		if have >= x.want {
			p.decide(x)
			return
		}
		for _, is := range x.open {
			if is {
				have++
			}
		}
		if have >= x.want {
			return
		}
		if x.asked == len(x.list) {
			p.over(x, false, api.Verdict{}, 0)
			return
		}
		p.another(x)
	}
}

func (p *plain) decide(x *inquiry) {
	switch x.policy {
	case api.Union:
		v, time, _ := merge.Union(x.q, x.votes)
		p.over(x, true, v, time)
	case api.Trusted:
		p.over(x, true, x.votes[0].Verdict, x.votes[0].Time)
	default:
		best := x.best()
		time := best[0].Time
		var against []int
		for _, v := range x.votes {
			if verdict.Same(v.Verdict, best[0].Verdict) {
				time = min(time, v.Time)
				peer := &p.peers[v.Up]
				peer.agree = min(65535, peer.agree+1)
				peer.score = min(100, peer.score+1)
				peer.trial = peer.trial && peer.score < min(p.c.Limit+10, 100)
			} else {
				against = append(against, v.Up)
			}
		}
		slices.Sort(against)
		for _, u := range against {
			p.dissent(u)
		}
		p.over(x, true, best[0].Verdict, time)
	}
}

func (p *plain) over(x *inquiry, done bool, v api.Verdict, time uint32) {
	p.free(x, -1)
	p.under = slices.DeleteFunc(p.under, func(y *inquiry) bool { return x == y })
	time = min(time, uint32(p.c.TTL))
	for _, w := range x.waiters {
		c := intake.Look(w.Data)
		if !done {
			p.code(w.Client, c, 2)
			continue
		}
		p.count(3)
		p.reply(w.Client, answer.Of(c, v, time, p.c.Size))
	}
	if done && time > 0 && p.c.Cache > 0 {
		if len(p.cache) == p.c.Cache {
			p.cache = slices.Delete(p.cache, 0, 1)
		}
		p.cache = append(p.cache, memory{x.q, v, p.now + int64(time)})
	}
}

func (p *plain) upstream(u int, data string) {
	var x *inquiry
	if len(data) >= 2 {
		x = p.ids[key{u, uint16(data[0])<<8 | uint16(data[1])}]
	}
	if x == nil {
		p.count(8)
		return
	}
	r := heard.Look(x.q, data)
	if r.Kind == heard.Bad {
		p.count(9)
		p.dissent(u)
		return
	}
	p.free(x, u)
	x.open[u] = false
	if r.Kind == heard.Pass {
		p.count(10)
	} else {
		p.count(11)
		x.votes = append(x.votes, tally.Vote{Up: u, Verdict: r.Verdict, Time: r.Time})
	}
	p.evaluate(x)
}

func (p *plain) tick() {
	p.now++
	for u := range p.peers {
		if x := &p.peers[u]; x.rests && x.until <= p.now {
			x.rests, x.score = false, p.c.Limit
			x.trial = x.score < min(p.c.Limit+10, 100)
		}
	}
	p.cache = slices.DeleteFunc(p.cache, func(m memory) bool { return m.until <= p.now })
	for _, x := range slices.Clone(p.under) {
		if p.now >= x.start+int64(p.c.Deadline) {
			p.over(x, false, api.Verdict{}, 0)
			continue
		}
		p.tickOne(x)
	}
}

func (p *plain) tickOne(x *inquiry) {
	var again []int
	for _, u := range x.list {
		if !x.open[u] || p.now < x.last[u]+int64(p.c.Wait) {
			continue
		}
		if x.times[u] < p.c.Tries {
			again = append(again, u)
			continue
		}
		x.open[u] = false
		y := &p.peers[u]
		y.silent = min(65535, y.silent+1)
		y.score = max(0, y.score-2)
		p.free(x, u)
	}
	for _, u := range again {
		p.send(x, u)
	}
	if k := (p.now - x.start) / int64(p.c.Hedge); k > x.seen {
		x.seen = k
		if x.asked < len(x.list) {
			p.another(x)
		}
	}
	p.evaluate(x)
}

// do is Forwarder.Do, for events that are not refused.
func (p *plain) do(x forwarder.Event) []forwarder.Out {
	p.outs = nil
	switch x.Kind {
	case forwarder.Client:
		p.client(x.From, x.Data)
	case forwarder.Reply:
		p.upstream(x.From, x.Data)
	default:
		for range x.N {
			p.tick()
		}
	}
	return p.outs
}
