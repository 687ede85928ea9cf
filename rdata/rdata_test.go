package rdata_test

import (
	"bytes"
	"math/rand"
	"reflect"
	"strings"
	"testing"

	"hustings/api"
	"hustings/comp"
	"hustings/rdata"
)

const other uint16 = 99

var kinds = []uint16{api.A, api.NS, api.CNAME, api.SOA, api.PTR, api.MX, api.TXT, api.AAAA, api.SRV, api.OPT, other, 0, 65535}

var twenty = strings.Repeat("\x01\x02\x03\x04A", 4)

// shape tells where names are in the data of a type: bytes before, names, bytes after.
func shape(kind uint16) (before, names, after int) {
	switch kind {
	case api.A:
		return 4, 0, 0
	case api.AAAA:
		return 16, 0, 0
	case api.NS, api.CNAME, api.PTR:
		return 0, 1, 0
	case api.MX:
		return 2, 1, 0
	case api.SOA:
		return 0, 2, 20
	case api.SRV:
		return 6, 1, 0
	}
	return -1, 0, 0
}

func exact(kind uint16) bool {
	before, _, _ := shape(kind)
	return before >= 0
}

func randomBytes(r *rand.Rand, n int) string {
	b := make([]byte, n)
	for i := range b {
		b[i] = "\x00\x01\x02aAzZ\xC0\xff"[r.Intn(9)]
	}
	return string(b)
}

func randomName(r *rand.Rand) string {
	var b strings.Builder
	for range r.Intn(4) {
		b.WriteString([]string{"\x01a", "\x01A", "\x02eX", "\x01b", "\x03A\x00z", "\x01["}[r.Intn(6)])
	}
	return b.String() + "\x00"
}

// random returns valid data of a type, and the names in it.
func random(r *rand.Rand, kind uint16) (string, []string) {
	if kind == api.TXT {
		var b strings.Builder
		for range 1 + r.Intn(3) {
			n := r.Intn(4)
			b.WriteByte(byte(n))
			b.WriteString(randomBytes(r, n))
		}
		return b.String(), nil
	}
	before, n, after := shape(kind)
	if before < 0 {
		return randomBytes(r, r.Intn(10)), nil
	}
	s := randomBytes(r, before)
	var names []string
	for range n {
		names = append(names, randomName(r))
		s += names[len(names)-1]
	}
	return s + randomBytes(r, after), names
}

func foldBytes(s string) string {
	b := []byte(s)
	for i := range b {
		if b[i] >= 0x41 && b[i] <= 0x5A {
			b[i] += 0x20
		}
	}
	return string(b)
}

// P5.1: which data is valid.
func TestMay(t *testing.T) {
	for _, x := range []struct {
		kind uint16
		data string
		want bool
	}{
		{api.A, "\x0a\x00\x00\x01", true}, {api.A, "\x0a\x00\x00", false}, {api.A, "\x0a\x00\x00\x01\x02", false}, {api.A, "", false},
		{api.AAAA, strings.Repeat("a", 16), true}, {api.AAAA, strings.Repeat("a", 15), false}, {api.AAAA, strings.Repeat("a", 17), false}, {api.AAAA, "aaaa", false},
		{api.NS, "\x01A\x00", true}, {api.CNAME, "\x01A\x00", true}, {api.PTR, "\x00", true}, {api.NS, "", false}, {api.CNAME, "\x01A", false}, {api.PTR, "\x00\x00", false},
		{api.NS, "\xC0\x00", false}, {api.NS, "\x01a\xC0\x00", false}, {api.NS, "\x40", false},
		{api.MX, "\x00\x0A\x02ex\x00", true}, {api.MX, "\x00\x0A", false}, {api.MX, "\x00", false}, {api.MX, "\x00\x0A\x02ex\x00\x00", false}, {api.MX, "\x00\x0A\x02ex", false},
		{api.MX, "\x00\x0A\xC0\x00", false}, {api.MX, "\x01a\x00", true},
		{api.SOA, "\x00\x00" + twenty, true}, {api.SOA, "\x01a\x00\x01B\x00" + twenty, true}, {api.SOA, "\x01a\x00" + twenty, false}, {api.SOA, "\x00\x00" + twenty[1:], false},
		{api.SOA, "\x00\x00" + twenty + "a", false}, {api.SOA, "\x01a\x00\xC0\x00" + twenty, false}, {api.SOA, "", false},
		{api.SRV, "123456\x02ex\x00", true}, {api.SRV, "123456", false}, {api.SRV, "12345", false}, {api.SRV, "123456\x02ex\x00a", false}, {api.SRV, "\x00\x00\x00\x00\x00\x00\xC0\x00", false},
		{api.TXT, "\x01\x61\x00", true}, {api.TXT, "", false}, {api.TXT, "\x00", true}, {api.TXT, "\x01", false}, {api.TXT, "\x01a\x02b", false}, {api.TXT, "\xff" + strings.Repeat("a", 255), true},
		{api.TXT, "\xff" + strings.Repeat("a", 254), false}, {api.TXT, strings.Repeat("\x00", 70000), true},
		{api.OPT, "", false}, {api.OPT, "\x00\x0a\x00\x00", false},
		{other, "", true}, {other, "\xC0", true}, {0, "abc", true}, {65535, strings.Repeat("a", 70000), true}, {255, "", true}, {3, "x", true}, {17, "", true},
	} {
		if got := rdata.May(x.kind, x.data); got != x.want {
			t.Errorf("May(%d, %q): %v", x.kind, x.data, got)
		}
		if !x.want {
			if l := rdata.Names(x.kind, x.data); len(l) != 0 {
				t.Errorf("Names(%d, %q): %q", x.kind, x.data, l)
			}
			if s := rdata.Fold(x.kind, x.data); s != "" {
				t.Errorf("Fold(%d, %q): %q", x.kind, x.data, s)
			}
			if b, e := rdata.Write([]byte{1}, comp.New(), x.kind, x.data); len(b) != 0 || e != api.ErrForm {
				t.Errorf("Write(%d, %q): %q %v", x.kind, x.data, b, e)
			}
		}
	}
	long := strings.Repeat("\x3f"+strings.Repeat("a", 63), 3)
	if !rdata.May(api.NS, long+"\x3d"+strings.Repeat("a", 61)+"\x00") || rdata.May(api.NS, long+"\x3e"+strings.Repeat("a", 62)+"\x00") {
		t.Error("the longest name")
	}
}

// P5.1: names in data, and the data with them folded.
func TestNames(t *testing.T) {
	if s := rdata.Fold(api.NS, "\x01\x41\x00"); s != "\x01\x61\x00" {
		t.Errorf("%q", s)
	}
	if s := rdata.Fold(api.SOA, "\x01A\x00\x02bC\x00"+twenty); s != "\x01a\x00\x02bc\x00"+twenty {
		t.Errorf("%q", s)
	}
	if s := rdata.Fold(api.SRV, "ABCDEF\x01A\x00"); s != "ABCDEF\x01a\x00" {
		t.Errorf("%q", s)
	}
	if s := rdata.Fold(api.MX, "AB\x01A\x00"); s != "AB\x01a\x00" {
		t.Errorf("%q", s)
	}
	for _, kind := range []uint16{api.A, other} {
		if s := rdata.Fold(kind, "ABCD"); s != "ABCD" {
			t.Errorf("%q", s)
		}
	}
	if s := rdata.Fold(api.TXT, "\x01A"); s != "\x01A" {
		t.Errorf("%q", s)
	}
	if l := rdata.Names(api.SOA, "\x01A\x00\x02bC\x00"+twenty); !reflect.DeepEqual(l, []string{"\x01A\x00", "\x02bC\x00"}) {
		t.Errorf("%q", l)
	}
	if l := rdata.Names(other, "\x01A\x00"); len(l) != 0 {
		t.Errorf("%q", l)
	}
}

// P5.1: whose names are compressed.
func TestCompressed(t *testing.T) {
	yes := map[uint16]bool{api.NS: true, api.CNAME: true, api.SOA: true, api.PTR: true, api.MX: true}
	for kind := range 300 {
		if rdata.Compressed(uint16(kind)) != yes[uint16(kind)] {
			t.Error(kind)
		}
	}
}

// P5.1, P5.5: any valid data.
func TestFolded(t *testing.T) {
	r := rand.New(rand.NewSource(1))
	for range 400 {
		for _, kind := range kinds {
			if kind == api.OPT {
				continue
			}
			data, names := random(r, kind)
			if !rdata.May(kind, data) {
				t.Fatalf("May(%d, %q)", kind, data)
			}
			if got := rdata.Names(kind, data); len(got) != len(names) || len(names) > 0 && !reflect.DeepEqual(got, names) {
				t.Fatalf("Names(%d, %q): %q, not %q", kind, data, got, names)
			}
			f := rdata.Fold(kind, data)
			want := data
			if before, _, after := shape(kind); len(names) > 0 {
				end := len(data) - after
				want = data[:before] + foldBytes(data[before:end]) + data[end:]
			}
			if f != want || rdata.Fold(kind, f) != f || !rdata.May(kind, f) {
				t.Fatalf("Fold(%d, %q): %q, not %q", kind, data, f, want)
			}
			for i, n := range rdata.Names(kind, f) {
				if n != foldBytes(names[i]) {
					t.Fatalf("names of %q", f)
				}
			}
		}
	}
}

// P5.6: one byte more or less makes it invalid.
func TestExactLength(t *testing.T) {
	r := rand.New(rand.NewSource(2))
	for range 300 {
		for _, kind := range kinds {
			if !exact(kind) {
				continue
			}
			data, _ := random(r, kind)
			for _, more := range []string{"\x00", "a", "\x01", "\xff"} {
				if rdata.May(kind, data+more) {
					t.Fatalf("May(%d, %q)", kind, data+more)
				}
			}
			if rdata.May(kind, data[:len(data)-1]) {
				t.Fatalf("May(%d, %q)", kind, data[:len(data)-1])
			}
		}
	}
}

// P5.2: what is read, by the chapter's examples and by the order of its errors.
func TestRead(t *testing.T) {
	ex := "\x02ex\x00"
	for _, x := range []struct {
		msg   string
		at, n int
		kind  uint16
		want  string
		e     api.Errno
	}{
		{"\x00\x0A" + ex, 0, 6, api.MX, "\x00\x0A" + ex, api.OK},
		{ex + "\x00\x0A\xC0\x00", 4, 4, api.MX, "\x00\x0A" + ex, api.OK},
		{ex + "123456\xC0\x00", 4, 8, api.SRV, "123456" + ex, api.OK},
		{ex + "\x01a\xC0\x00\xC0\x04" + twenty, 4, 26, api.SOA, "\x01a" + ex + "\x01a" + ex + twenty, api.OK},
		{ex + "\xC0\x00more", 4, 2, api.CNAME, ex, api.OK},
		{ex + "\xC0\x00", 4, 2, api.PTR, ex, api.OK},
		{ex + "\xC0\x00", 4, 2, other, "\xC0\x00", api.OK},
		{"abc", 0, 3, api.A, "", api.ErrShort},
		{"abcd", 0, 3, api.A, "", api.ErrShort},
		{"abcde", 0, 5, api.A, "", api.ErrForm},
		{"abcde", 1, 4, api.A, "bcde", api.OK},
		{strings.Repeat("a", 15), 0, 15, api.AAAA, "", api.ErrShort},
		{strings.Repeat("a", 17), 0, 17, api.AAAA, "", api.ErrForm},
		{"", 0, 0, api.TXT, "", api.ErrShort},
		{"\x01", 0, 1, api.TXT, "", api.ErrShort},
		{"\x01ab", 0, 1, api.TXT, "", api.ErrShort},
		{"\x00\x02a", 0, 3, api.TXT, "", api.ErrShort},
		{"\x01a\x00", 0, 3, api.TXT, "\x01a\x00", api.OK},
		{"", 0, 0, other, "", api.OK},
		{"a", 1, 0, other, "", api.OK},
		{"", 0, 0, api.OPT, "", api.ErrForm},
		{"\x00\x0a\x00\x00", 0, 4, api.OPT, "", api.ErrForm},
		{"a", -1, 0, api.OPT, "", api.ErrArg},
		{"a", 0, -1, api.OPT, "", api.ErrArg},
		{"a", 0, 2, other, "", api.ErrArg},
		{"a", 1, 1, other, "", api.ErrArg},
		{"a", 3, 1, other, "", api.ErrArg},
		{"a", 1<<63 - 1, 1<<63 - 1, other, "", api.ErrArg},
		{"a", 1, 1<<63 - 1, other, "", api.ErrArg},
		{"a", -1 << 63, -1 << 63, other, "", api.ErrArg},
		// A name ends with the data, though the message goes on.
		{"\x01a\x00", 0, 2, api.NS, "", api.ErrShort},
		{ex + "\xC0\x00", 4, 1, api.NS, "", api.ErrShort},
		{ex, 0, 0, api.NS, "", api.ErrShort},
		{ex, 0, 1, api.MX, "", api.ErrShort},
		{ex + "ab", 4, 2, api.MX, "", api.ErrShort},
		{"\xC0\x00", 0, 2, api.NS, "", api.ErrLoop},
		{"\x40", 0, 1, api.NS, "", api.ErrForm},
		{"\x01a\x00\x00", 0, 4, api.NS, "", api.ErrForm},
		{"\x01a\x00" + twenty, 0, 23, api.SOA, "", api.ErrForm},
		{"\x01a\x00", 0, 3, api.SOA, "", api.ErrShort},
		{"\x01a\x00\x00", 0, 4, api.SOA, "", api.ErrShort},
		{"\x00\x00" + twenty[1:], 0, 21, api.SOA, "", api.ErrShort},
		{"\x00\x00" + twenty + "a", 0, 23, api.SOA, "", api.ErrForm},
		{strings.Repeat("\x01a", 128) + "\x00", 0, 257, api.NS, "", api.ErrLong},
	} {
		got, e := rdata.Read(x.msg, x.at, x.n, x.kind)
		if got != x.want || e != x.e {
			t.Errorf("Read(%q, %d, %d, %d): %q %v, not %q %v", x.msg, x.at, x.n, x.kind, got, e, x.want, x.e)
		}
	}
}

// P5.2: what is written, in which manner.
func TestWrite(t *testing.T) {
	ex := "\x02ex\x00"
	for _, x := range []struct {
		kind       uint16
		data, want string
		known      bool
	}{
		{api.NS, "\x01a" + ex, "\x01a\xC0\x00", true},
		{api.CNAME, ex, "\xC0\x00", false},
		{api.PTR, "\x01a" + ex, "\x01a\xC0\x00", true},
		{api.MX, "\x00\x0A\x01a" + ex, "\x00\x0A\x01a\xC0\x00", true},
		{api.SOA, "\x01a" + ex + "\x01a" + ex + twenty, "\x01a\xC0\x00\xC0\x04" + twenty, true},
		{api.SRV, "123456\x01a" + ex, "123456\x01a" + ex, false},
		{other, ex, ex, false},
		{api.A, "\x02ex\x00", "\x02ex\x00", false},
		{api.TXT, "\x01a\x02ex", "\x01a\x02ex", false},
	} {
		tab := comp.New()
		b, _ := tab.Put(nil, ex, true, true)
		b, e := rdata.Write(b, tab, x.kind, x.data)
		if string(b) != ex+x.want || e != api.OK {
			t.Errorf("Write(%d, %q): %q %v", x.kind, x.data, b, e)
		}
		if _, is := tab.At("\x01a" + ex); is != x.known {
			t.Errorf("Write(%d, %q): known %v", x.kind, x.data, is)
		}
	}
	tab := comp.New()
	if _, e := rdata.Write(nil, tab, api.SRV, "123456"+ex); e != api.OK {
		t.Error(e)
	}
	if _, is := tab.At(ex); is {
		t.Error("the name of an SRV record is known")
	}
	for _, data := range []string{"abcd", "abc"} {
		if b, e := rdata.Write([]byte{1}, nil, api.A, data); len(b) != 0 || e != api.ErrNil {
			t.Error(b, e)
		}
	}
}

// P5.3: what is written is read back, whatever was written before.
func TestBack(t *testing.T) {
	r := rand.New(rand.NewSource(3))
	for range 300 {
		tab := comp.New()
		b := []byte(randomBytes(r, r.Intn(5)))
		for range 12 {
			kind := kinds[r.Intn(len(kinds))]
			if kind == api.OPT {
				continue
			}
			data, _ := random(r, kind)
			at := len(b)
			var e api.Errno
			if b, e = rdata.Write(b, tab, kind, data); e != api.OK {
				t.Fatal(e)
			}
			if wrote := len(b) - at; wrote > len(data) || !rdata.Compressed(kind) && string(b[at:]) != data {
				t.Fatalf("Write(%d, %q): %q", kind, data, b[at:])
			}
			for _, more := range []string{"", "\x00\xC0"} {
				if got, e := rdata.Read(string(b)+more, at, len(b)-at, kind); got != data || e != api.OK {
					t.Fatalf("%d: %q is read back as %q, %v", kind, data, got, e)
				}
			}
		}
	}
}

// P5.4: whatever is read is valid; valid data is read as itself.
func TestUncompressed(t *testing.T) {
	r := rand.New(rand.NewSource(4))
	good := 0
	for range 30000 {
		kind := kinds[r.Intn(len(kinds))]
		msg := randomBytes(r, r.Intn(30))
		if r.Intn(2) == 0 {
			data, _ := random(r, kind)
			msg += data
		}
		at := r.Intn(len(msg) + 1)
		n := r.Intn(len(msg) - at + 1)
		if r.Intn(2) == 0 {
			n = len(msg) - at
		}
		got, e := rdata.Read(msg, at, n, kind)
		if e == api.OK {
			good++
			if !rdata.May(kind, got) {
				t.Fatalf("Read(%q, %d, %d, %d): %q", msg, at, n, kind, got)
			}
		} else if got != "" {
			t.Fatal(got)
		}
		if rdata.May(kind, msg) {
			if same, e := rdata.Read(msg, 0, len(msg), kind); same != msg || e != api.OK {
				t.Fatalf("Read(%q, %d): %q %v", msg, kind, same, e)
			}
		}
	}
	if good < 1000 {
		t.Error(good)
	}
}

// R3: new memory.
func TestNewMemory(t *testing.T) {
	back := []byte{1, 2, 3, 77, 77, 77, 77, 77, 77, 77}
	for _, kind := range []uint16{api.NS, api.SRV, other, api.TXT} {
		data := map[uint16]string{api.NS: "\x01a\x00", api.SRV: "123456\x00", other: "", api.TXT: "\x00"}[kind]
		x, _ := rdata.Write(back[:3], comp.New(), kind, data)
		y, _ := rdata.Write(back[:3], comp.New(), kind, data)
		if !bytes.Equal(back, []byte{1, 2, 3, 77, 77, 77, 77, 77, 77, 77}) {
			t.Fatal(back)
		}
		x[0] = 9
		if back[0] != 1 || y[0] != 1 {
			t.Error(kind, back, y)
		}
	}
}
