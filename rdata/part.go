package rdata

import (
	"hustings/api"
	"hustings/comp"
	"hustings/cursor"
)

// A piece of data is a name, or bytes that are none.
type piece struct {
	text   string
	isName bool
}

// A walk goes over data that ends with its text, part by part.
type walk struct {
	text   string
	from   *cursor.Cursor
	plain  bool // a name must stand there uncompressed
	pieces []piece
}

// A part reads what it is for, or says why that is not there.
type part func(w *walk) api.Errno

// parts returns the parts of the data of a type, in order; those beyond the last one are nil.
func parts(kind uint16) [3]part {
	switch kind {
	case api.A:
		return [3]part{fixed(4)}
	case api.AAAA:
		return [3]part{fixed(16)}
	case api.NS, api.CNAME, api.PTR:
		return [3]part{domain()}
	case api.MX:
		return [3]part{fixed(2), domain()}
	case api.SOA:
		return [3]part{domain(), domain(), fixed(20)}
	case api.SRV:
		return [3]part{fixed(6), domain()}
	case api.TXT:
		return [3]part{texts()}
	case api.OPT:
		return [3]part{never()}
	}
	return [3]part{rest()}
}

// pieces returns the pieces of the data that begins at an offset of a text and ends with it.
func pieces(text string, at int, kind uint16, plain bool) ([]piece, api.Errno) {
	w := &walk{text: text, from: cursor.New(text), plain: plain}
	if e := w.from.Seek(at); e != api.OK {
		return nil, e
	}
	for _, read := range parts(kind) {
		if read == nil {
			break
		}
		if e := read(w); e != api.OK {
			return nil, e
		}
	}
	if w.from.Left() > 0 {
		return nil, api.ErrForm
	}
	return w.pieces, api.OK
}

func fixed(n int) part {
	return func(w *walk) api.Errno {
		text, e := w.from.Take(n)
		w.pieces = append(w.pieces, piece{text: text})
		return e
	}
}

func domain() part {
	return func(w *walk) api.Errno {
		at := w.from.At()
		n, next, e := comp.Read(w.text, at)
		if e != api.OK {
			return e
		}
		if w.plain && w.text[at:next] != n {
			return api.ErrForm
		}
		w.pieces = append(w.pieces, piece{text: n, isName: true})
		return w.from.Seek(next)
	}
}

func texts() part {
	return func(w *walk) api.Errno {
		at := w.from.At()
		for {
			length, e := w.from.Byte()
			if e != api.OK {
				return e
			}
			if _, e = w.from.Take(int(length)); e != api.OK {
				return e
			}
			if w.from.Left() == 0 {
				w.pieces = append(w.pieces, piece{text: w.text[at:]})
				return api.OK
			}
		}
	}
}

func rest() part {
	return func(w *walk) api.Errno {
		text, e := w.from.Take(w.from.Left())
		w.pieces = append(w.pieces, piece{text: text})
		return e
	}
}

func never() part {
	return func(*walk) api.Errno { return api.ErrForm }
}
