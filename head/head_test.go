package head_test

import (
	"math/rand"
	"testing"

	"hustings/api"
	"hustings/head"
)

// P3.1: the chapter's examples.
func TestRead(t *testing.T) {
	h, c, e := head.Read("\x12\x34\x81\x80\x00\x01\x00\x02\x00\x00\x00\x01")
	if e != api.OK || h != (api.Head{ID: 4660, QR: true, RD: true, RA: true}) || c != (head.Counts{1, 2, 0, 1}) {
		t.Error(h, c, e)
	}
	h, c, e = head.Read("\x00\x00\x28\x05\xff\xff\x01\x00\x80\x01\x00\x00")
	if e != api.OK || h != (api.Head{Op: 5, Code: 5}) || c != (head.Counts{65535, 256, 32769, 0}) {
		t.Error(h, c, e)
	}
	if f, e := head.Flags(api.Head{AA: true, TC: true}); f != 0x0600 || e != api.OK {
		t.Error(f, e)
	}
}

// P3.1: bytes that are written, by the same examples.
func TestWrite(t *testing.T) {
	s, e := head.Write(api.Head{ID: 4660, QR: true, RD: true, RA: true}, head.Counts{1, 2, 0, 1})
	if e != api.OK || s != "\x12\x34\x81\x80\x00\x01\x00\x02\x00\x00\x00\x01" {
		t.Errorf("%q %v", s, e)
	}
	s, e = head.Write(api.Head{Op: 5, Code: 5}, head.Counts{65535, 256, 32769, 0})
	if e != api.OK || s != "\x00\x00\x28\x05\xff\xff\x01\x00\x80\x01\x00\x00" {
		t.Errorf("%q %v", s, e)
	}
}

// P3.1, P3.2: what is refused.
func TestRefused(t *testing.T) {
	for _, h := range []api.Head{{Op: 16}, {Code: 16}, {Op: 255, QR: true}, {Code: 255, ID: 9}, {Op: 16, Code: 16}, {Op: 32}, {Code: 32}} {
		if f, e := head.Flags(h); f != 0 || e != api.ErrArg {
			t.Error(h, f, e)
		}
		if s, e := head.Write(h, head.Counts{}); s != "" || e != api.ErrArg {
			t.Error(h, s, e)
		}
	}
	for i := range 4 {
		for _, n := range []int{-1, 65536, -1 << 63, 1 << 32, 1 << 62} {
			var c head.Counts
			c[i] = n
			if s, e := head.Write(api.Head{}, c); s != "" || e != api.ErrArg {
				t.Error(c, s, e)
			}
		}
	}
	if s, e := head.Write(api.Head{Op: 15, Code: 15}, head.Counts{65535, 65535, 65535, 65535}); e != api.OK || s != "\x00\x00\x78\x0f\xff\xff\xff\xff\xff\xff\xff\xff" {
		t.Errorf("%q %v", s, e)
	}
}

// P3.2: each part has the bits that the document gives it.
func TestTable(t *testing.T) {
	for flags, want := range map[uint16]api.Head{
		0x8000: {QR: true}, 0x0400: {AA: true}, 0x0200: {TC: true}, 0x0100: {RD: true}, 0x0080: {RA: true}, 0x0040: {Z: true},
		0x0020: {AD: true}, 0x0010: {CD: true}, 0x7800: {Op: 15}, 0x4000: {Op: 8}, 0x2000: {Op: 4}, 0x1000: {Op: 2}, 0x0800: {Op: 1},
		0x000f: {Code: 15}, 0x0008: {Code: 8}, 0x0004: {Code: 4}, 0x0002: {Code: 2}, 0x0001: {Code: 1}, 0: {},
	} {
		if h := head.From(flags); h != want {
			t.Errorf("%04x: %v", flags, h)
		}
		if f, e := head.Flags(want); f != flags || e != api.OK {
			t.Errorf("%v: %04x %v", want, f, e)
		}
	}
}

// P3.3: all flags, and back; the ID has no part in them.
func TestFlagsBack(t *testing.T) {
	for n := range 1 << 16 {
		h := head.From(uint16(n))
		if h.ID != 0 {
			t.Fatal(h)
		}
		h.ID = uint16(n * 7)
		f, e := head.Flags(h)
		if f != uint16(n) || e != api.OK {
			t.Fatal(n, f, e)
		}
		again := head.From(f)
		again.ID = h.ID
		if again != h {
			t.Fatal(again, h)
		}
	}
}

// P3.3, P3.5: any 12 bytes, and back; more bytes change nothing, fewer are no header.
func TestBack(t *testing.T) {
	r := rand.New(rand.NewSource(1))
	for range 2000 {
		b := make([]byte, 12)
		r.Read(b)
		s := string(b)
		h, c, e := head.Read(s)
		if e != api.OK {
			t.Fatal(e)
		}
		if back, e := head.Write(h, c); back != s || e != api.OK {
			t.Fatalf("%q %q %v", s, back, e)
		}
		more := make([]byte, 1+r.Intn(9))
		r.Read(more)
		if h2, c2, e2 := head.Read(s + string(more)); h2 != h || c2 != c || e2 != api.OK {
			t.Fatal(h2, c2, e2)
		}
		for n := range 12 {
			if h, c, e := head.Read(s[:n]); h != (api.Head{}) || c != (head.Counts{}) || e != api.ErrShort {
				t.Fatal(n, h, c, e)
			}
		}
	}
}

// parts are those of a header, each as a number.
func parts(h api.Head) []int {
	is := func(b bool) int {
		if b {
			return 1
		}
		return 0
	}
	return []int{is(h.QR), int(h.Op), is(h.AA), is(h.TC), is(h.RD), is(h.RA), is(h.Z), is(h.AD), is(h.CD), int(h.Code)}
}

// P3.4: one bit belongs to one part.
func TestEachBit(t *testing.T) {
	r := rand.New(rand.NewSource(2))
	for range 500 {
		n := uint16(r.Intn(1 << 16))
		for bit := range 16 {
			a, b := parts(head.From(n)), parts(head.From(n^1<<bit))
			changed := 0
			for i := range a {
				if a[i] != b[i] {
					changed++
				}
			}
			if changed != 1 {
				t.Fatalf("%04x, bit %d: %d parts", n, bit, changed)
			}
		}
	}
}
