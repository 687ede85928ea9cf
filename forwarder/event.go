package forwarder

import (
	"hustings/answer"
	"hustings/api"
	"hustings/ask"
	"hustings/flight"
	"hustings/heard"
	"hustings/intake"
	"hustings/order"
)

// The events, each with what its Kind uses.
type (
	fromClient struct {
		client int
		data   string
	}
	fromUpstream struct {
		up   int
		data string
	}
	passing struct{ until int64 }
)

// A sheet lists the datagrams that go out.
type sheet struct{ outs []Out }

func (s *sheet) up(u int, data string) {
	s.outs = append(s.outs, Out{Up: true, To: u, Data: data})
}

func (s *sheet) client(c int, data string) {
	s.outs = append(s.outs, Out{To: c, Data: data})
}

// event returns what an event is, or nil if it is refused.
func (f *Forwarder) event(x Event) any {
	switch {
	case x.Kind == Client && x.From >= 0 && x.From <= api.MaxClient:
		return fromClient{client: x.From, data: x.Data}
	case x.Kind == Reply && x.From >= 0 && x.From < f.conf.Ups:
		return fromUpstream{up: x.From, data: x.Data}
	case x.Kind == Tick && x.N >= 0 && x.N <= api.MaxTicks-f.now:
		return passing{until: f.now + x.N}
	}
	return nil
}

// Do processes an event and returns the outgoing datagrams.
func (f *Forwarder) Do(x Event) ([]Out, api.Errno) {
	if !f.made() {
		return nil, api.ErrNil
	}
	var s sheet
	switch e := f.event(x).(type) {
	case fromClient:
		f.hearClient(&s, e)
	case fromUpstream:
		f.hearUpstream(&s, e)
	case passing:
		f.pass(&s, e.until)
	default:
		return nil, api.ErrArg
	}
	return s.outs, api.OK
}

func (f *Forwarder) hearClient(s *sheet, x fromClient) {
	f.count(clients)
	switch c := intake.Look(x.data); c.Kind {
	case intake.Drop:
		f.count(dropped)
	case intake.Tell:
		f.tell(s, x.client, c, c.Code)
	case intake.Asks:
		f.hearQuestion(s, x, c)
	}
}

func (f *Forwarder) tell(s *sheet, client int, c intake.Came, code int) {
	if code == int(api.ServFail) {
		f.count(servFails)
	} else {
		f.count(otherCodes)
	}
	s.client(client, answer.Code(c, code, f.conf.Size))
}

func (f *Forwarder) hearQuestion(s *sheet, x fromClient, c intake.Came) {
	q := c.Question
	z := f.zones.Find(q.Name)
	if z.Policy == api.Refuse {
		f.tell(s, x.client, c, int(api.Refused))
		return
	}
	if v, left, is := f.cache.Find(q, f.now); is {
		f.count(fromCache)
		s.client(x.client, answer.Of(c, v, uint32(left), f.conf.Size))
		return
	}
	waiter := flight.Waiter{Client: x.client, Data: x.data}
	slot, is := f.flights.Find(q)
	if is && f.flights.Join(slot, waiter) == api.OK {
		f.count(joined)
		return
	}
	if is || f.flights.Len() == f.conf.Flights || !f.begin(s, q, z, waiter) {
		f.tell(s, x.client, c, int(api.ServFail))
	}
}

// begin puts a question to the upstreams, and reports whether there is one to be asked.
func (f *Forwarder) begin(s *sheet, q api.Question, z api.Zone, w flight.Waiter) bool {
	list := order.Order(f.book, f.tape)
	a, did, e := ask.New(q, z, list, f.conf, f.now)
	if e != api.OK {
		return false
	}
	slot, _ := f.flights.Begin(q)
	f.asks[slot] = a
	f.flights.Join(slot, w)
	f.process(s, slot, did)
	return true
}

func (f *Forwarder) hearUpstream(s *sheet, x fromUpstream) {
	slot, is := f.outstanding(x)
	if !is {
		f.count(strays)
		return
	}
	q, _ := f.flights.Question(slot)
	switch r := heard.Look(q, x.data); r.Kind {
	case heard.Bad:
		f.count(bads)
		f.book.Dissent(x.up, f.now)
	case heard.Pass:
		f.count(passes)
		f.pend.FreeAt(slot, x.up)
		f.process(s, slot, f.asks[slot].Pass(x.up, f.now))
	case heard.Vote:
		f.count(votes)
		f.pend.FreeAt(slot, x.up)
		f.process(s, slot, f.asks[slot].Vote(x.up, r.Verdict, r.Time, f.now))
	}
}

// outstanding returns the slot of the question to which a datagram of an upstream belongs.
func (f *Forwarder) outstanding(x fromUpstream) (int, bool) {
	if len(x.data) < 2 {
		return 0, false
	}
	return f.pend.Find(x.up, uint16(x.data[0])<<8|uint16(x.data[1]))
}

// pass lets time pass until a tick. Ticks at which nothing can happen are left out: there may be very many.
func (f *Forwarder) pass(s *sheet, until int64) {
	for f.now < until {
		f.now = f.next(until)
		f.book.Back(f.now)
		f.cache.Expire(f.now)
		for _, slot := range f.flights.Row() {
			f.process(s, slot, f.asks[slot].Tick(f.now))
		}
	}
}

// next returns the least tick, after the current one, at which something is due, but at most until.
func (f *Forwarder) next(until int64) int64 {
	earlier := func(at int64, is bool) {
		if is {
			until = min(until, at)
		}
	}
	earlier(f.book.Due())
	earlier(f.cache.Due())
	for _, slot := range f.flights.Row() {
		earlier(f.asks[slot].Due())
	}
	return max(until, f.now+1)
}
