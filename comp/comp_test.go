package comp_test

import (
	"bytes"
	"math/rand"
	"strings"
	"testing"

	"hustings/api"
	"hustings/comp"
	"hustings/name"
)

func named(t *testing.T, s string) string {
	t.Helper()
	n, e := name.Parse(s)
	if e != api.OK {
		t.Fatal(s, e)
	}
	return n
}

func long(tail int) string {
	return strings.Repeat("\x3f"+strings.Repeat("a", 63), 3) + string(rune(tail)) + strings.Repeat("b", tail) + "\x00"
}

// P4.2: the chapter's example, put and read.
func TestExample(t *testing.T) {
	tab := comp.New()
	var b []byte
	var at []int
	var e api.Errno
	texts := []string{"www.ex.", "ftp.ex.", "ex.", "WWW.ex."}
	for _, s := range texts {
		at = append(at, len(b))
		if b, e = tab.Put(b, named(t, s), true, true); e != api.OK {
			t.Fatal(e)
		}
	}
	if want := "\x03www\x02ex\x00\x03ftp\xC0\x04\xC0\x04\x03WWW\xC0\x04"; string(b) != want {
		t.Fatalf("%q", b)
	}
	for i, s := range texts {
		n, next, e := comp.Read(string(b), at[i])
		end := len(b)
		if i+1 < len(at) {
			end = at[i+1]
		}
		if n != named(t, s) || next != end || e != api.OK {
			t.Errorf("%s: %q %d %v", s, n, next, e)
		}
	}
	if to, is := tab.At(named(t, "ex.")); to != 4 || !is {
		t.Error(to, is)
	}
	if to, is := tab.At(named(t, "EX.")); to != 0 || is {
		t.Error(to, is)
	}
	if to, is := tab.At("\x00"); to != 0 || is {
		t.Error(to, is)
	}
}

// P4.1: what is read, and what is refused.
func TestRead(t *testing.T) {
	far := strings.Repeat("\x00", 300)
	for _, x := range []struct {
		msg  string
		at   int
		n    string
		next int
		e    api.Errno
	}{
		{"\xC0\x00", 0, "", 0, api.ErrLoop},
		{"\x40", 0, "", 0, api.ErrForm},
		{"\x80\x00", 0, "", 0, api.ErrForm},
		{"\x7f" + strings.Repeat("a", 127) + "\x00", 0, "", 0, api.ErrForm},
		{"\xbf\x00", 0, "", 0, api.ErrForm},
		{"\x03\x61", 0, "", 0, api.ErrShort},
		{"", 0, "", 0, api.ErrShort},
		{"", 1, "", 0, api.ErrArg},
		{"", -1, "", 0, api.ErrArg},
		{"\x00", -1 << 63, "", 0, api.ErrArg},
		{"\x00", 1<<63 - 1, "", 0, api.ErrArg},
		{"\x00", 2, "", 0, api.ErrArg},
		{"\x00", 1, "", 0, api.ErrShort},
		{"\x00", 0, "\x00", 1, api.OK},
		{"\x01a", 0, "", 0, api.ErrShort},
		{"\xC0", 0, "", 0, api.ErrShort},
		{"\x00\xC0\x00", 1, "\x00", 3, api.OK},
		{"\x01a\x00\xC0\x00", 3, "\x01a\x00", 5, api.OK},
		{"\x01a\x00\x01b\xC0\x00more", 3, "\x01b\x01a\x00", 7, api.OK},
		// Case stays as it stands.
		{"\x01A\x00\x01b\xC0\x00", 3, "\x01b\x01A\x00", 7, api.OK},
		// A pointer to itself, into its own name, and forwards.
		{"\x00\xC0\x01", 1, "", 0, api.ErrLoop},
		{"\x01a\xC0\x00", 0, "", 0, api.ErrLoop},
		{"\x01a\xC0\x02", 0, "", 0, api.ErrLoop},
		{"\xC0\x02\x00", 0, "", 0, api.ErrLoop},
		{"\xC0\x09\x00", 0, "", 0, api.ErrLoop},
		{"\xFF\xFF", 0, "", 0, api.ErrLoop},
		// The second pointer must lead before what the first one led to, not only before the name.
		{"\x00\x01a\xC0\x01\xC0\x01", 5, "", 0, api.ErrLoop},
		{"\x00\x01a\xC0\x00\xC0\x01", 5, "\x01a\x00", 7, api.OK},
		{"\x00\x00\xC0\x01\xC0\x02", 4, "\x00", 6, api.OK},
		{"\x00\x01a\xC0\x02\xC0\x01", 5, "", 0, api.ErrLoop},
		{"\x00\xC0\x00\x01b\xC0\x03\xC0\x03", 7, "", 0, api.ErrLoop},
		// After a pointer the bytes may run on behind the name's beginning.
		{"\x01a\xC0\x00\x01b\xC0\x00", 4, "", 0, api.ErrLoop},
		{"\x02a\x03\x01b\x00\xC0\x00", 6, "\x02a\x03\x01b\x00", 8, api.OK},
		{"\x01\x01\x01\xC0\x01\x01", 3, "", 0, api.ErrLoop},
		{"\x05abcd\xC0\x00\x00", 5, "\x05abcd\xC0\x00", 7, api.OK},
		// An offset of 14 bits.
		{far + "\x01a\x00\xC1\x2C", 303, "\x01a\x00", 305, api.OK},
		// What comes first counts.
		{"\x01a\x40", 0, "", 0, api.ErrForm},
		{"\x01a\xC0", 0, "", 0, api.ErrShort},
		{"\x01a\x3f", 0, "", 0, api.ErrShort},
		{long(61), 0, long(61), 255, api.OK},
		{long(62), 0, "", 0, api.ErrLong},
		{long(62)[:255], 0, "", 0, api.ErrLong},
		{long(62)[:254], 0, "", 0, api.ErrShort},
		{long(61)[:254], 0, "", 0, api.ErrShort},
		{strings.Repeat("\x01a", 127) + "\x00", 0, strings.Repeat("\x01a", 127) + "\x00", 255, api.OK},
		{strings.Repeat("\x01a", 128) + "\x00", 0, "", 0, api.ErrLong},
		{strings.Repeat("\x01a", 127) + "\x40", 0, "", 0, api.ErrForm},
		{strings.Repeat("\x01a", 127) + "\xC0\x00", 0, "", 0, api.ErrLoop},
		{"\x00" + strings.Repeat("\x01a", 127) + "\xC0\x00", 1, strings.Repeat("\x01a", 127) + "\x00", 257, api.OK},
		{"\x01b\x00" + strings.Repeat("\x01a", 126) + "\xC0\x00", 3, strings.Repeat("\x01a", 126) + "\x01b\x00", 257, api.OK},
		{"\x01b\x00" + strings.Repeat("\x01a", 127) + "\xC0\x00", 3, "", 0, api.ErrLong},
	} {
		n, next, e := comp.Read(x.msg, x.at)
		if x.e != api.OK {
			x.n, x.next = "", 0
		}
		if n != x.n || next != x.next || e != x.e {
			t.Errorf("Read(%q, %d): %q %d %v, not %q %d %v", x.msg, x.at, n, next, e, x.n, x.next, x.e)
		}
	}
}

// read is the document's reading, told plainly.
func read(msg string, at int) (string, int, api.Errno) {
	if at < 0 || at > len(msg) {
		return "", 0, api.ErrArg
	}
	out, next, bound := "", -1, at
	for {
		if at >= len(msg) {
			return "", 0, api.ErrShort
		}
		c := int(msg[at])
		switch {
		case c >= 0xC0:
			if at+1 >= len(msg) {
				return "", 0, api.ErrShort
			}
			if next < 0 {
				next = at + 2
			}
			to := (c-0xC0)*256 + int(msg[at+1])
			if to >= bound {
				return "", 0, api.ErrLoop
			}
			at, bound = to, to
		case c >= 0x40:
			return "", 0, api.ErrForm
		case c == 0:
			if next < 0 {
				next = at + 1
			}
			return out + "\x00", next, api.OK
		default:
			if at+1+c > len(msg) {
				return "", 0, api.ErrShort
			}
			out += msg[at : at+1+c]
			if len(out) >= 255 {
				return "", 0, api.ErrLong
			}
			at += 1 + c
		}
	}
}

// P4.1, P4.7: any bytes are read as the document says, and as a name.
func TestReadAny(t *testing.T) {
	r := rand.New(rand.NewSource(1))
	const few = "\x00\x00\x01\x01\x02\x03a\xC0\xC0\xC0\x04\x05\x3f\x40"
	read1 := 0
	for range 60000 {
		b := make([]byte, r.Intn(40))
		for i := range b {
			b[i] = few[r.Intn(len(few))]
		}
		at := r.Intn(len(b)+3) - 1
		n, next, e := comp.Read(string(b), at)
		n2, next2, e2 := read(string(b), at)
		if n != n2 || next != next2 || e != e2 {
			t.Fatalf("Read(%q, %d): %q %d %v, not %q %d %v", b, at, n, next, e, n2, next2, e2)
		}
		if e == api.OK {
			read1++
			if !name.May(n) {
				t.Fatalf("%q is no name", n)
			}
		}
	}
	if read1 < 1000 {
		t.Error(read1)
	}
}

// P4.6: bytes after what was read change nothing; without them it is short.
func TestLaterBytes(t *testing.T) {
	r := rand.New(rand.NewSource(2))
	for range 2000 {
		n := randomName(r)
		before := make([]byte, r.Intn(5))
		msg := string(before) + n
		for _, more := range []string{"", "\x00", "\xC0", "\xff\xff", n} {
			got, next, e := comp.Read(msg+more, len(before))
			if got != n || next != len(msg) || e != api.OK {
				t.Fatalf("%q: %q %d %v", n, got, next, e)
			}
		}
		for cut := len(before); cut < len(msg); cut++ {
			if got, next, e := comp.Read(msg[:cut], len(before)); got != "" || next != 0 || e != api.ErrShort {
				t.Fatalf("%q of %q: %q %d %v", msg[:cut], n, got, next, e)
			}
		}
	}
}

func randomName(r *rand.Rand) string {
	var b strings.Builder
	for range r.Intn(5) {
		b.WriteString([]string{"\x01a", "\x01A", "\x02ab", "\x01b", "\x03\x01a\x00", "\x01\x00"}[r.Intn(6)])
	}
	return b.String() + "\x00"
}

func suffixes(n string) []string {
	var l []string
	for n != "\x00" {
		l = append(l, n)
		n = n[1+int(n[0]):]
	}
	return l
}

// model is the document's table, told plainly.
type model map[string]int

func (m model) put(b string, n string, compress, known bool) string {
	offset, out := len(b), b
	for _, s := range suffixes(n) {
		if to, is := m[s]; is && compress {
			return m.labels(out, n[:len(n)-len(s)], n, known, offset) + string([]byte{0xC0 | byte(to>>8), byte(to)})
		}
	}
	return m.labels(out, n, n, known, offset)
}

func (m model) labels(out, keep, n string, known bool, offset int) string {
	for _, s := range suffixes(n) {
		at := len(n) - len(s)
		if _, is := m[s]; known && !is && at < len(keep) && offset+at <= 16383 {
			m[s] = offset + at
		}
	}
	return out + keep
}

// P4.2 to P4.5, P4.7: any names, one after another, in any manner.
func TestPutAny(t *testing.T) {
	r := rand.New(rand.NewSource(3))
	for round := range 400 {
		tab, m := comp.New(), model{}
		if round%2 == 1 {
			tab = &comp.Table{}
		}
		b := make([]byte, r.Intn(20))
		if round%5 == 0 {
			b = make([]byte, api.MaxPointer-r.Intn(40))
		}
		var names []string
		var at []int
		var e api.Errno
		for range 25 {
			n := randomName(r)
			compress, known := r.Intn(3) > 0, r.Intn(3) > 0
			want := m.put(string(b), n, compress, known)
			names, at = append(names, n), append(at, len(b))
			wrote := len(want) - len(b)
			if b, e = tab.Put(b, n, compress, known); e != api.OK || string(b) != want {
				t.Fatalf("Put(%q, %v, %v): %q, not %q", n, compress, known, b, want)
			}
			if wrote > len(n) {
				t.Fatalf("%q: %d bytes", n, wrote)
			}
			for _, s := range suffixes(n) {
				to, is := tab.At(s)
				want, there := m[s]
				if to != want || is != there {
					t.Fatalf("At(%q): %d %v, not %d %v", s, to, is, want, there)
				}
			}
		}
		for i, n := range names {
			next := len(b)
			if i+1 < len(at) {
				next = at[i+1]
			}
			got, end, e := comp.Read(string(b), at[i])
			if got != n || end != next || e != api.OK {
				t.Fatalf("%q at %d: %q %d %v", n, at[i], got, end, e)
			}
			if wrote := next - at[i]; wrote < len(n) {
				to := int(b[next-2])<<8 | int(b[next-1])
				if to < 0xC000 || to-0xC000 >= at[i] {
					t.Fatalf("%q at %d ends with %04x", n, at[i], to)
				}
			}
		}
	}
}

// P4.2: the last offset that may be pointed to is MaxPointer.
func TestMaxPointer(t *testing.T) {
	n := named(t, "a.b.c.")
	for _, x := range []struct {
		at   int
		want []int
	}{
		{api.MaxPointer - 4, []int{16379, 16381, 16383}},
		{api.MaxPointer - 3, []int{16380, 16382, -1}},
		{api.MaxPointer, []int{16383, -1, -1}},
		{api.MaxPointer + 1, []int{-1, -1, -1}},
	} {
		tab := comp.New()
		b, e := tab.Put(make([]byte, x.at), n, true, true)
		if e != api.OK {
			t.Fatal(e)
		}
		for i, s := range suffixes(n) {
			to, is := tab.At(s)
			if is != (x.want[i] >= 0) || is && to != x.want[i] {
				t.Errorf("%d: At(%q): %d %v", x.at, s, to, is)
			}
		}
		if x.want[0] == 16383 {
			if b, e = tab.Put(b, n, true, true); e != api.OK || string(b[len(b)-2:]) != "\xff\xff" {
				t.Errorf("%q %v", b[len(b)-2:], e)
			}
		}
	}
}

// P4.2: the first offset stays, and a name that is not to be known is not.
func TestKnown(t *testing.T) {
	tab := comp.New()
	n := named(t, "a.ex.")
	b, _ := tab.Put(nil, n, false, true)
	b, _ = tab.Put(b, n, false, true)
	if string(b) != n+n {
		t.Errorf("%q", b)
	}
	if to, _ := tab.At(n); to != 0 {
		t.Error(to)
	}
	b, _ = tab.Put(b, named(t, "b.ex."), true, false)
	if string(b) != n+n+"\x01b\xC0\x02" {
		t.Errorf("%q", b)
	}
	if to, is := tab.At(named(t, "b.ex.")); is || to != 0 {
		t.Error(to)
	}
	b, _ = tab.Put(b, "\x00", true, true)
	if string(b) != n+n+"\x01b\xC0\x02\x00" {
		t.Errorf("%q", b)
	}
}

// P4.2: what is refused, and that it changes nothing.
func TestRefused(t *testing.T) {
	var none *comp.Table
	for _, n := range []string{"\x00", "", "\x01a\x00", "a"} {
		if b, e := none.Put([]byte{1}, n, true, true); len(b) != 0 || e != api.ErrNil {
			t.Error(b, e)
		}
		if to, is := none.At(n); to != 0 || is {
			t.Error(to, is)
		}
	}
	tab := comp.New()
	for _, n := range []string{"", "\x01a", "\x01a\x00\x00", "\xC0\x00", "\x40", long(62), "\x01a\xC0\x00"} {
		if b, e := tab.Put([]byte{1, 2}, n, true, true); len(b) != 0 || e != api.ErrForm {
			t.Errorf("%q: %v %v", n, b, e)
		}
		if to, is := tab.At(n); to != 0 || is {
			t.Error(to, is)
		}
	}
	if to, is := tab.At("\x01a\x00"); to != 0 || is {
		t.Error(to, is)
	}
	var zero comp.Table
	if to, is := zero.At("\x01a\x00"); to != 0 || is {
		t.Error(to, is)
	}
}

// R3: new memory, and nothing beyond the length is touched.
func TestNewMemory(t *testing.T) {
	back := []byte{1, 2, 3, 77, 77, 77, 77, 77, 77, 77}
	tab := comp.New()
	x, _ := tab.Put(back[:3], "\x01a\x00", true, true)
	y, _ := tab.Put(back[:3], "\x01b\x00", true, true)
	if !bytes.Equal(back, []byte{1, 2, 3, 77, 77, 77, 77, 77, 77, 77}) || string(x) != "\x01\x02\x03\x01a\x00" || string(y) != "\x01\x02\x03\x01b\x00" {
		t.Error(back, x, y)
	}
	x[0] = 9
	if back[0] != 1 || y[0] != 1 {
		t.Error(back, y)
	}
}
