package cursor_test

import (
	"bytes"
	"math/rand"
	"testing"

	"hustings/api"
	"hustings/cursor"
)

const text = "\x01\x02\x03\x04\x05"

// P2.1: the chapter's example.
func TestExample(t *testing.T) {
	c := cursor.New(text)
	if n, e := c.Byte(); n != 1 || e != api.OK {
		t.Error(n, e)
	}
	if n, e := c.Two(); n != 515 || e != api.OK {
		t.Error(n, e)
	}
	if n := c.Left(); n != 2 {
		t.Error(n)
	}
	if n, e := c.Four(); n != 0 || e != api.ErrShort {
		t.Error(n, e)
	}
	if s, e := c.Take(2); s != "\x04\x05" || e != api.OK {
		t.Error(s, e)
	}
	if n, e := c.Byte(); n != 0 || e != api.ErrShort {
		t.Error(n, e)
	}
	if e := c.Seek(5); e != api.OK {
		t.Error(e)
	}
	if e := c.Seek(6); e != api.ErrArg {
		t.Error(e)
	}
}

// P2.1: numbers have their most significant byte first.
func TestNumbers(t *testing.T) {
	c := cursor.New("\xfe\x80\x01\xff\x00\x00\x80\x7f\x01\x02\x03")
	if n, e := c.Byte(); n != 0xfe || e != api.OK {
		t.Error(n, e)
	}
	if n, e := c.Two(); n != 0x8001 || e != api.OK {
		t.Error(n, e)
	}
	if n, e := c.Four(); n != 0xff000080 || e != api.OK {
		t.Error(n, e)
	}
	if n, e := c.Four(); n != 0x7f010203 || e != api.OK {
		t.Error(n, e)
	}
}

// P2.1: a failure has its error, no result, and leaves the offset.
func TestFailures(t *testing.T) {
	for at := 0; at <= len(text); at++ {
		c := cursor.New(text)
		if e := c.Seek(at); e != api.OK {
			t.Fatal(e)
		}
		check := func(what string, zero bool, e, want api.Errno) {
			t.Helper()
			if !zero || e != want || c.At() != at || c.Left() != len(text)-at {
				t.Errorf("%s at %d: %v %v, at %d", what, at, zero, e, c.At())
			}
		}
		if len(text)-at < 1 {
			n, e := c.Byte()
			check("Byte", n == 0, e, api.ErrShort)
		}
		if len(text)-at < 2 {
			n, e := c.Two()
			check("Two", n == 0, e, api.ErrShort)
		}
		if len(text)-at < 4 {
			n, e := c.Four()
			check("Four", n == 0, e, api.ErrShort)
		}
		for _, n := range []int{-1, -1 << 62, -1 << 63} {
			s, e := c.Take(n)
			check("Take below 0", s == "", e, api.ErrArg)
			check("Seek below 0", true, c.Seek(n), api.ErrArg)
		}
		for _, n := range []int{len(text) - at + 1, 1<<63 - 1} {
			s, e := c.Take(n)
			check("Take too much", s == "", e, api.ErrShort)
		}
		for _, n := range []int{len(text) + 1, 1<<63 - 1} {
			check("Seek too far", true, c.Seek(n), api.ErrArg)
		}
		s, e := c.Take(0)
		check("Take nothing", s == "", e, api.OK)
	}
}

// P2.1: nil has nothing.
func TestNil(t *testing.T) {
	var c *cursor.Cursor
	if n, e := c.Byte(); n != 0 || e != api.ErrNil {
		t.Error(n, e)
	}
	if n, e := c.Two(); n != 0 || e != api.ErrNil {
		t.Error(n, e)
	}
	if n, e := c.Four(); n != 0 || e != api.ErrNil {
		t.Error(n, e)
	}
	for _, n := range []int{-1, 0, 1} {
		if s, e := c.Take(n); s != "" || e != api.ErrNil {
			t.Error(s, e)
		}
		if e := c.Seek(n); e != api.ErrNil {
			t.Error(e)
		}
	}
	if c.At() != 0 || c.Left() != 0 {
		t.Error(c.At(), c.Left())
	}
	empty := cursor.New("")
	if n, e := empty.Byte(); n != 0 || e != api.ErrShort || empty.At() != 0 || empty.Left() != 0 || empty.Seek(0) != api.OK {
		t.Error(n, e)
	}
}

// P2.2: the chapter's example, and the order of bytes.
func TestPut(t *testing.T) {
	b := cursor.Put2(nil, 258)
	if !bytes.Equal(b, []byte{1, 2}) {
		t.Error(b)
	}
	if b = cursor.Put4(b, 1); !bytes.Equal(b, []byte{1, 2, 0, 0, 0, 1}) {
		t.Error(b)
	}
	if b = cursor.Put1([]byte{9}, 0xfe); !bytes.Equal(b, []byte{9, 0xfe}) {
		t.Error(b)
	}
	if b = cursor.Put4([]byte{}, 0x80fe0102); !bytes.Equal(b, []byte{0x80, 0xfe, 1, 2}) {
		t.Error(b)
	}
}

// P2.3: what is put is read back, and then nothing is left.
func TestBack(t *testing.T) {
	r := rand.New(rand.NewSource(1))
	for range 500 {
		var b []byte
		var sizes []int
		var want []uint32
		for range r.Intn(10) {
			n := r.Uint32()
			switch size := 1 + r.Intn(3); size {
			case 1:
				b, n = cursor.Put1(b, uint8(n)), n&0xff
				sizes, want = append(sizes, size), append(want, n)
			case 2:
				b, n = cursor.Put2(b, uint16(n)), n&0xffff
				sizes, want = append(sizes, size), append(want, n)
			default:
				b = cursor.Put4(b, n)
				sizes, want = append(sizes, 4), append(want, n)
			}
		}
		c := cursor.New(string(b))
		for i, size := range sizes {
			at := c.At()
			var got uint32
			var e api.Errno
			switch size {
			case 1:
				var n uint8
				n, e = c.Byte()
				got = uint32(n)
			case 2:
				var n uint16
				n, e = c.Two()
				got = uint32(n)
			default:
				got, e = c.Four()
			}
			if got != want[i] || e != api.OK || c.At() != at+size {
				t.Fatalf("%d of %d: %d %v at %d", size, want[i], got, e, c.At())
			}
		}
		if c.Left() != 0 {
			t.Fatal(c.Left())
		}
	}
}

// P2.4: two numbers are one of twice the size, and bytes may be taken in parts.
func TestParts(t *testing.T) {
	r := rand.New(rand.NewSource(2))
	for range 500 {
		b := make([]byte, 4+r.Intn(8))
		r.Read(b)
		whole, parts := cursor.New(string(b)), cursor.New(string(b))
		n, _ := whole.Four()
		x, _ := parts.Two()
		y, _ := parts.Two()
		if n != uint32(x)<<16|uint32(y) {
			t.Fatal(n, x, y)
		}
		whole.Seek(1)
		parts.Seek(1)
		two, _ := whole.Two()
		hi, _ := parts.Byte()
		lo, _ := parts.Byte()
		if two != uint16(hi)<<8|uint16(lo) {
			t.Fatal(two, hi, lo)
		}
		k := r.Intn(whole.Left() + 1)
		all, _ := whole.Take(k)
		cut := r.Intn(k + 1)
		p, _ := parts.Take(cut)
		q, _ := parts.Take(k - cut)
		if all != p+q || all != string(b[3:3+k]) {
			t.Fatal(all, p, q)
		}
	}
}

// P2.5: offsets.
func TestOffsets(t *testing.T) {
	r := rand.New(rand.NewSource(3))
	for range 300 {
		b := make([]byte, r.Intn(20))
		r.Read(b)
		c := cursor.New(string(b))
		first := map[int]string{}
		for range 40 {
			at := c.At()
			if at+c.Left() != len(b) {
				t.Fatal(at, c.Left(), len(b))
			}
			switch r.Intn(3) {
			case 0:
				to := r.Intn(len(b) + 1)
				if e := c.Seek(to); e != api.OK || c.At() != to {
					t.Fatal(e, to, c.At())
				}
			case 1:
				n := r.Intn(6)
				s, e := c.Take(n)
				if e == api.OK && (c.At() != at+n || s != string(b[at:at+n])) || e != api.OK && (c.At() != at || n <= len(b)-at) {
					t.Fatal(s, e, n, at, c.At())
				}
			default:
				s, e := c.Take(c.Left())
				if old, is := first[at]; e != api.OK || is && old != s {
					t.Fatal(s, e, at)
				}
				first[at] = s
			}
		}
	}
}

// P2.6, R3: new memory each time, and nothing beyond the length is read or written.
func TestNewMemory(t *testing.T) {
	puts := map[string]func([]byte, uint32) []byte{
		"Put1": func(b []byte, n uint32) []byte { return cursor.Put1(b, uint8(n)) },
		"Put2": func(b []byte, n uint32) []byte { return cursor.Put2(b, uint16(n)) },
		"Put4": cursor.Put4,
	}
	for what, put := range puts {
		back := []byte{1, 2, 3, 77, 77, 77, 77, 77}
		b := back[:3]
		x := put(b, 0x05050505)
		y := put(b, 0x06060606)
		if !bytes.Equal(back, []byte{1, 2, 3, 77, 77, 77, 77, 77}) {
			t.Errorf("%s wrote beyond: %v", what, back)
		}
		for i := range x {
			want := byte(5)
			if i < 3 {
				want = back[i]
			}
			if x[i] != want {
				t.Errorf("%s: %v", what, x)
			}
		}
		x[0], x[3] = 99, 99
		if b[0] != 1 || y[0] != 1 || y[3] != 6 {
			t.Errorf("%s shares: %v %v", what, b, y)
		}
		b[1] = 88
		if x[1] != 2 || y[1] != 2 {
			t.Errorf("%s shares: %v %v", what, x, y)
		}
	}
}

// P2.1: cursors over one text are independent.
func TestIndependent(t *testing.T) {
	a, b := cursor.New(text), cursor.New(text)
	a.Take(3)
	if b.At() != 0 || a.At() != 3 {
		t.Error(a.At(), b.At())
	}
}
