package wire

import (
	"hustings/api"
	"hustings/comp"
	"hustings/cursor"
	"hustings/edns"
	"hustings/head"
	"hustings/rdata"
)

// A reader has the bytes of a message, how far they are read, and the message so far.
type reader struct {
	bytes string
	from  *cursor.Cursor
	msg   api.Msg
}

// decoded returns the message that bytes represent; its own encoding may be too long.
func decoded(s string) api.Msg {
	if len(s) > api.MaxMessage {
		fail(api.ErrLong)
	}
	h, counts, e := head.Read(s)
	must(e)
	r := &reader{bytes: s, from: cursor.New(s), msg: api.Msg{Head: h}}
	r.take(12)
	for range counts[0] {
		r.msg.Questions = append(r.msg.Questions, r.question())
	}
	r.records(&r.msg.Answers, counts[1], false)
	r.records(&r.msg.Authority, counts[2], false)
	r.records(&r.msg.Extra, counts[3], true)
	if r.from.Left() > 0 {
		fail(api.ErrLong)
	}
	return r.msg
}

func (r *reader) take(n int) {
	_, e := r.from.Take(n)
	must(e)
}

func (r *reader) two() uint16 {
	n, e := r.from.Two()
	must(e)
	return n
}

func (r *reader) four() uint32 {
	n, e := r.from.Four()
	must(e)
	return n
}

func (r *reader) name() string {
	n, next, e := comp.Read(r.bytes, r.from.At())
	must(e)
	must(r.from.Seek(next))
	return n
}

func (r *reader) question() api.Question {
	return api.Question{Name: r.name(), Type: r.two(), Class: r.two()}
}

// records reads so many records into a section; only among the additional ones may be OPT.
func (r *reader) records(to *[]api.Record, count int, additional bool) {
	for range count {
		x := api.Record{Name: r.name(), Type: r.two(), Class: r.two(), TTL: r.four()}
		length := int(r.two())
		at := r.from.At()
		r.take(length)
		if x.Type == api.OPT {
			r.opt(x, r.bytes[at:at+length], additional)
			continue
		}
		data, e := rdata.Read(r.bytes, at, length, x.Type)
		must(e)
		x.Data = data
		*to = append(*to, x)
	}
}

func (r *reader) opt(x api.Record, data string, additional bool) {
	if !additional || r.msg.HasEdns || x.Name != root {
		fail(api.ErrForm)
	}
	contents, e := edns.Read(x.Class, x.TTL, data)
	must(e)
	r.msg.HasEdns, r.msg.Edns = true, contents
}
