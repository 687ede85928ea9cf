package forwarder

import (
	"hustings/answer"
	"hustings/api"
	"hustings/ask"
	"hustings/heard"
	"hustings/intake"
)

// process carries out what the inquiry of a slot did.
func (f *Forwarder) process(s *sheet, slot int, did ask.Did) {
	for _, u := range did.Gone {
		f.book.Silent(u)
		f.pend.FreeAt(slot, u)
	}
	q, _ := f.flights.Question(slot)
	for _, u := range did.Sends {
		f.send(s, slot, u, q)
	}
	if did.Over {
		f.finish(s, slot, q, did)
	}
}

func (f *Forwarder) send(s *sheet, slot, u int, q api.Question) {
	id, e := f.pend.Draw(u, slot, f.tape)
	if e != api.OK {
		return
	}
	query, _ := heard.Query(q, id, f.conf.Size)
	f.count(sent)
	s.up(u, query)
}

// finish ends the question of a slot, and answers all who wait for it.
func (f *Forwarder) finish(s *sheet, slot int, q api.Question, did ask.Did) {
	f.pend.Free(slot)
	for _, u := range did.Agree {
		f.book.Agree(u)
	}
	for _, u := range did.Dissent {
		f.book.Dissent(u, f.now)
	}
	waiters, _ := f.flights.End(slot)
	f.asks[slot] = nil
	ttl := min(did.Time, uint32(f.conf.TTL))
	for _, w := range waiters {
		c := intake.Look(w.Data)
		if !did.Done {
			f.tell(s, w.Client, c, int(api.ServFail))
			continue
		}
		f.count(decided)
		s.client(w.Client, answer.Of(c, did.Verdict, ttl, f.conf.Size))
	}
	if did.Done && ttl > 0 {
		f.cache.Keep(q, did.Verdict, int64(ttl), f.now)
	}
}
