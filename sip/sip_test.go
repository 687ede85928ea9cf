package sip_test

import (
	"math/rand"
	"strings"
	"testing"

	"hustings/api"
	"hustings/sip"
)

const (
	k0 = 0x0706050403020100
	k1 = 0x0F0E0D0C0B0A0908
)

func upTo(n int) string {
	b := make([]byte, n)
	for i := range b {
		b[i] = byte(i)
	}
	return string(b)
}

// P13.1: the chapter's examples.
func TestExamples(t *testing.T) {
	for n, want := range map[int]uint64{0: 0x726FDB47DD0E0E31, 1: 0x74F839C593DC67FD, 2: 0x0D6C8009D9A94F5A, 8: 0x93F5F5799A932462, 15: 0xA129CA6149BE45E5} {
		if got := sip.Sum(k0, k1, upTo(n)); got != want {
			t.Errorf("%d: %x", n, got)
		}
		h := sip.New(k0, k1)
		if e := h.Write(upTo(n)); e != api.OK || h.Sum() != want || h.Len() != n {
			t.Errorf("%d: %x %v", n, h.Sum(), e)
		}
	}
}

func rotate(n uint64, by uint) uint64 { return n<<by | n>>(64-by) }

// model is the chapter's hash, told plainly.
func model(k0, k1 uint64, s string) uint64 {
	v0, v1, v2, v3 := k0^0x736F6D6570736575, k1^0x646F72616E646F6D, k0^0x6C7967656E657261, k1^0x7465646279746573
	round := func() {
		v0 += v1
		v1 = rotate(v1, 13) ^ v0
		v0 = rotate(v0, 32)
		v2 += v3
		v3 = rotate(v3, 16) ^ v2
		v0 += v3
		v3 = rotate(v3, 21) ^ v0
		v2 += v1
		v1 = rotate(v1, 17) ^ v2
		v2 = rotate(v2, 32)
	}
	all := s + strings.Repeat("\x00", 7-len(s)%8) + string([]byte{byte(len(s))})
	for ; len(all) > 0; all = all[8:] {
		var m uint64
		for i := 7; i >= 0; i-- {
			m = m<<8 | uint64(all[i])
		}
		v3 ^= m
		round()
		round()
		v0 ^= m
	}
	v2 ^= 0xff
	for range 4 {
		round()
	}
	return v0 ^ v1 ^ v2 ^ v3
}

// P13.1, P13.3: any bytes, any key, in any parts.
func TestParts(t *testing.T) {
	r := rand.New(rand.NewSource(1))
	for i := range 3000 {
		a, b := r.Uint64(), r.Uint64()
		n := i % 70
		if i%50 == 0 {
			n = 250 + r.Intn(600)
		}
		all := make([]byte, n)
		r.Read(all)
		s := string(all)
		want := model(a, b, s)
		if got := sip.Sum(a, b, s); got != want {
			t.Fatalf("%q: %x, not %x", s, got, want)
		}
		h := sip.New(a, b)
		for at := 0; at < len(s); {
			end := at + r.Intn(min(20, len(s)-at)+1)
			if e := h.Write(s[at:end]); e != api.OK {
				t.Fatal(e)
			}
			at = end
			if h.Len() != at || r.Intn(2) == 0 && h.Sum() != model(a, b, s[:at]) {
				t.Fatalf("%q: %d", s[:at], h.Len())
			}
		}
		if h.Sum() != want || h.Len() != len(s) {
			t.Fatalf("%q: %x", s, h.Sum())
		}
	}
}

// P13.2: a zero Hash has the key 0, 0; nil has nothing.
func TestZero(t *testing.T) {
	var h, other sip.Hash
	if h.Sum() != model(0, 0, "") || h.Len() != 0 {
		t.Errorf("%x", h.Sum())
	}
	c := other.Copy()
	for _, x := range []*sip.Hash{&h, &other, c} {
		all := ""
		for i := range 20 {
			text := "abcdefghijklmnopqrstuvwxyz"[:9+7*i%17]
			all += text
			if e := x.Write(text); e != api.OK {
				t.Error(e)
			}
			// Sometimes the next bytes come before anybody asks for the hash.
			if i%3 == 1 && (x.Sum() != model(0, 0, all) || x.Len() != len(all)) {
				t.Errorf("%q: %x", all, x.Sum())
			}
		}
	}
	var none *sip.Hash
	if none.Write("a") != api.ErrNil || none.Write("") != api.ErrNil || none.Sum() != 0 || none.Len() != 0 || none.Copy() != nil {
		t.Error("nil")
	}
}

// P13.4: Sum changes nothing, and a copy is independent.
func TestContinuation(t *testing.T) {
	r := rand.New(rand.NewSource(2))
	for range 500 {
		b := make([]byte, r.Intn(40))
		r.Read(b)
		s := string(b)
		h := sip.New(k0, k1)
		h.Write(s)
		first := h.Sum()
		c := h.Copy()
		if h.Sum() != first || c.Sum() != first || c.Len() != len(s) {
			t.Fatal(first)
		}
		c.Write("more bytes than a block")
		if h.Sum() != first || h.Len() != len(s) || c.Sum() != model(k0, k1, s+"more bytes than a block") {
			t.Fatal("the hash is changed by its copy")
		}
		d := h.Copy()
		h.Write("x")
		if d.Sum() != first || h.Sum() != model(k0, k1, s+"x") {
			t.Fatal("the copy is changed by its hash")
		}
	}
}
