package wire

import (
	"hustings/api"
	"hustings/comp"
	"hustings/cursor"
	"hustings/edns"
	"hustings/head"
	"hustings/rdata"
)

// A writer has the bytes so far, and what names in them may be pointed to.
type writer struct {
	bytes []byte
	names *comp.Table
}

// encoding returns the bytes of a message that is valid except for the length.
func encoding(m api.Msg) string {
	w := &writer{names: comp.New()}
	w.head(m)
	for _, q := range m.Questions {
		w.question(q)
	}
	for _, l := range [3][]api.Record{m.Answers, m.Authority, m.Extra} {
		for _, r := range l {
			w.record(r)
		}
	}
	if m.HasEdns {
		w.opt(m.Edns)
	}
	return string(w.bytes)
}

func (w *writer) head(m api.Msg) {
	counts := head.Counts{len(m.Questions), len(m.Answers), len(m.Authority), len(m.Extra)}
	if m.HasEdns {
		counts[3]++
	}
	s, e := head.Write(m.Head, counts)
	must(e)
	w.text(s)
}

func (w *writer) question(q api.Question) {
	w.name(q.Name)
	w.two(q.Type)
	w.two(q.Class)
}

func (w *writer) record(r api.Record) {
	w.name(r.Name)
	w.two(r.Type)
	w.two(r.Class)
	w.four(r.TTL)
	w.data(r.Type, r.Data)
}

func (w *writer) opt(x api.Edns) {
	class, ttl, data, e := edns.Write(x)
	must(e)
	w.text(root)
	w.two(api.OPT)
	w.two(class)
	w.four(ttl)
	w.two(uint16(len(data)))
	w.text(data)
}

// text appends bytes; all others come through it or end with it, so that none grows beyond what a message may have.
func (w *writer) text(s string) {
	if len(s) > api.MaxMessage-len(w.bytes) {
		fail(api.ErrLong)
	}
	w.bytes = append(w.bytes, s...)
}

func (w *writer) two(n uint16) {
	w.text(string(cursor.Put2(nil, n)))
}

func (w *writer) four(n uint32) {
	w.text(string(cursor.Put4(nil, n)))
}

func (w *writer) name(n string) {
	if len(w.bytes) > api.MaxPointer {
		// Nothing that stands here can be pointed to, so that it does not matter what precedes it.
		b, e := w.names.Put(nil, n, true, false)
		must(e)
		w.text(string(b))
		return
	}
	b, e := w.names.Put(w.bytes, n, true, true)
	must(e)
	w.replace(b)
}

// data appends data with its length before it, which is known only when it is written.
func (w *writer) data(kind uint16, data string) {
	if !rdata.Compressed(kind) {
		w.two(uint16(len(data)))
		w.text(data)
		return
	}
	w.two(0)
	from := len(w.bytes)
	b, e := rdata.Write(w.bytes, w.names, kind, data)
	must(e)
	w.replace(b)
	copy(w.bytes[from-2:], cursor.Put2(nil, uint16(len(b)-from)))
}

func (w *writer) replace(b []byte) {
	if len(b) > api.MaxMessage {
		fail(api.ErrLong)
	}
	w.bytes = b
}
