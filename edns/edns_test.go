package edns_test

import (
	"math/rand"
	"slices"
	"strings"
	"testing"

	"hustings/api"
	"hustings/edns"
)

func randomOptions(r *rand.Rand) []api.Option {
	var l []api.Option
	for range r.Intn(4) {
		b := make([]byte, r.Intn(4))
		r.Read(b)
		l = append(l, api.Option{Code: uint16(r.Intn(1 << 16)), Data: string(b)})
	}
	return l
}

func random(r *rand.Rand) api.Edns {
	return api.Edns{Size: uint16(r.Intn(1 << 16)), Ext: uint8(r.Intn(256)), Version: uint8(r.Intn(256)), Flags: uint16(r.Intn(1 << 16)), Options: randomOptions(r)}
}

// same holds both against each other, without the package under test.
func same(a, b api.Edns) bool {
	return a.Size == b.Size && a.Ext == b.Ext && a.Version == b.Version && a.Flags == b.Flags && slices.Equal(a.Options, b.Options)
}

// P6.1: the chapter's example, both ways.
func TestExample(t *testing.T) {
	want := api.Edns{Size: 1232, Flags: 0x8000, Options: []api.Option{{Code: 10, Data: "ab"}}}
	x, e := edns.Read(1232, 0x00008000, "\x00\x0A\x00\x02\x61\x62")
	if e != api.OK || !same(x, want) {
		t.Error(x, e)
	}
	class, ttl, data, e := edns.Write(want)
	if class != 1232 || ttl != 0x8000 || data != "\x00\x0A\x00\x02\x61\x62" || e != api.OK {
		t.Error(class, ttl, data, e)
	}
	x, e = edns.Read(65535, 0x12345678, "\x01\x02\x00\x00\xff\xff\x00\x01z")
	want = api.Edns{Size: 65535, Ext: 0x12, Version: 0x34, Flags: 0x5678, Options: []api.Option{{Code: 258}, {Code: 65535, Data: "z"}}}
	if e != api.OK || !same(x, want) {
		t.Error(x, e)
	}
	if class, ttl, data, e = edns.Write(want); class != 65535 || ttl != 0x12345678 || data != "\x01\x02\x00\x00\xff\xff\x00\x01z" || e != api.OK {
		t.Error(class, ttl, data, e)
	}
	if x, e = edns.Read(0, 0, ""); e != api.OK || !same(x, api.Edns{}) {
		t.Error(x, e)
	}
}

// P6.1: options that are incomplete.
func TestShort(t *testing.T) {
	for _, s := range []string{"\x00\x0A\x00\x03\x61\x62", "\x00\x0A\x00", "\x00\x0A", "\x00", "\x00\x0A\x00\x01", "\x00\x0A\x00\x00\x00", "\x00\x0A\x00\x01a\x00\x0A\x01\x00b", "\x00\x00\xff\xff"} {
		if x, e := edns.Read(1232, 5, s); e != api.ErrShort || !same(x, api.Edns{}) {
			t.Errorf("%q: %v %v", s, x, e)
		}
	}
}

// P6.1: options that are too long, each or together.
func TestLong(t *testing.T) {
	of := func(n ...int) api.Edns {
		x := api.Edns{Size: 1232, Flags: 1}
		for _, n := range n {
			x.Options = append(x.Options, api.Option{Code: 1, Data: strings.Repeat("a", n)})
		}
		return x
	}
	for _, x := range []api.Edns{of(65532), of(65536), of(70000), of(65527, 1), of(32000, 32000, 2000), of(65531, 0)} {
		if class, ttl, data, e := edns.Write(x); class != 0 || ttl != 0 || data != "" || e != api.ErrLong {
			t.Error(class, ttl, len(data), e)
		}
	}
	for _, x := range []api.Edns{of(65531), of(65527, 0), of(32000, 33527)} {
		class, ttl, data, e := edns.Write(x)
		if class != 1232 || ttl != 1 || len(data) != 65535 || e != api.OK {
			t.Error(class, ttl, len(data), e)
		}
		if back, e := edns.Read(class, ttl, data); e != api.OK || !same(back, x) {
			t.Error(len(back.Options), e)
		}
	}
}

// P6.2, P6.5: codes.
func TestCodes(t *testing.T) {
	seen := map[[2]uint8]bool{}
	for n := range 4096 {
		code, ext, e := edns.Split(n)
		if e != api.OK || code > 15 || int(ext)*16+int(code) != n || edns.Code(code, ext) != n || seen[[2]uint8{code, ext}] {
			t.Fatal(n, code, ext, e)
		}
		seen[[2]uint8{code, ext}] = true
	}
	for ext := range 256 {
		for code := range 256 {
			n := edns.Code(uint8(code), uint8(ext))
			if n != ext*16+code%16 {
				t.Fatal(code, ext, n)
			}
			c, x, e := edns.Split(n)
			if int(c) != code%16 || int(x) != ext || e != api.OK {
				t.Fatal(code, ext, c, x, e)
			}
		}
	}
	for _, n := range []int{-1, 4096, -1 << 63, 1<<63 - 1, 65536, -4096} {
		if c, x, e := edns.Split(n); c != 0 || x != 0 || e != api.ErrArg {
			t.Error(n, c, x, e)
		}
	}
	if edns.Code(0, 1) != 16 {
		t.Error(edns.Code(0, 1))
	}
	if c, x, e := edns.Split(16); c != 0 || x != 1 || e != api.OK {
		t.Error(c, x, e)
	}
}

// P6.3, P6.4: and back, and one list of options after another.
func TestBack(t *testing.T) {
	r := rand.New(rand.NewSource(1))
	for range 2000 {
		x, y := random(r), random(r)
		class, ttl, data, e := edns.Write(x)
		if e != api.OK {
			t.Fatal(e)
		}
		back, e := edns.Read(class, ttl, data)
		if e != api.OK || !same(back, x) {
			t.Fatal(x, back, e)
		}
		if c2, t2, d2, e := edns.Write(back); c2 != class || t2 != ttl || d2 != data || e != api.OK {
			t.Fatal(c2, t2, d2, e)
		}
		_, _, more, _ := edns.Write(y)
		both := x
		both.Options = append(append([]api.Option(nil), x.Options...), y.Options...)
		if _, _, d, e := edns.Write(both); d != data+more || e != api.OK {
			t.Fatal(d, e)
		}
		if got, e := edns.Read(class, ttl, data+more); e != api.OK || !same(got, both) {
			t.Fatal(got, e)
		}
		ends := map[int]bool{0: true}
		end := 0
		for _, o := range x.Options {
			end += 4 + len(o.Data)
			ends[end] = true
		}
		for cut := range len(data) {
			got, e := edns.Read(class, ttl, data[:cut])
			if ends[cut] != (e == api.OK) || e != api.OK && (e != api.ErrShort || !same(got, api.Edns{})) {
				t.Fatal(cut, got, e)
			}
		}
	}
}

// P6.3: whatever is read is written back.
func TestReadAny(t *testing.T) {
	r := rand.New(rand.NewSource(2))
	for range 5000 {
		b := make([]byte, r.Intn(14))
		for i := range b {
			b[i] = "\x00\x00\x00\x01\x02"[r.Intn(5)]
		}
		x, e := edns.Read(7, 9, string(b))
		if e == api.OK {
			if class, ttl, data, e := edns.Write(x); class != 7 || ttl != 9 || data != string(b) || e != api.OK {
				t.Fatalf("%q: %q %v", b, data, e)
			}
		}
	}
}

// P6.6: parts have bits of their own.
func TestParts(t *testing.T) {
	r := rand.New(rand.NewSource(3))
	for range 1000 {
		x, y := random(r), random(r)
		_, ttl, _, _ := edns.Write(x)
		for i := range 3 {
			z := x
			var mask uint32
			switch i {
			case 0:
				z.Ext, mask = y.Ext, 0xff000000
			case 1:
				z.Version, mask = y.Version, 0x00ff0000
			default:
				z.Flags, mask = y.Flags, 0x0000ffff
			}
			_, changed, _, _ := edns.Write(z)
			if (changed^ttl)&^mask != 0 {
				t.Fatalf("%08x %08x", ttl, changed)
			}
			got, _ := edns.Read(z.Size, changed, "")
			z.Options = nil
			if !same(got, z) {
				t.Fatal(got, z)
			}
		}
	}
}

// P6.1: sameness is of all parts.
func TestSame(t *testing.T) {
	of := func() api.Edns {
		return api.Edns{Size: 1, Ext: 2, Version: 3, Flags: 4, Options: []api.Option{{Code: 5, Data: "a"}, {Code: 6, Data: "b"}}}
	}
	if !edns.Same(of(), of()) || !edns.Same(api.Edns{}, api.Edns{Options: []api.Option{}}) {
		t.Error("not the same")
	}
	for i, change := range []func(x *api.Edns){
		func(x *api.Edns) { x.Size++ }, func(x *api.Edns) { x.Ext++ }, func(x *api.Edns) { x.Version++ }, func(x *api.Edns) { x.Flags++ },
		func(x *api.Edns) { x.Options = x.Options[:1] }, func(x *api.Edns) { x.Options = nil }, func(x *api.Edns) { x.Options[1].Code++ },
		func(x *api.Edns) { x.Options[0].Data = "b" }, func(x *api.Edns) { x.Options[0], x.Options[1] = x.Options[1], x.Options[0] },
		func(x *api.Edns) { x.Options = append(x.Options, api.Option{}) },
	} {
		x := of()
		change(&x)
		if edns.Same(x, of()) || edns.Same(of(), x) {
			t.Error(i, x)
		}
	}
}

// R3: new memory, and arguments stay.
func TestNewMemory(t *testing.T) {
	data := "\x00\x0A\x00\x02ab\x00\x0B\x00\x00"
	x, _ := edns.Read(1, 2, data)
	y, _ := edns.Read(1, 2, data)
	x.Options[0].Code = 99
	if y.Options[0].Code != 10 {
		t.Error(y)
	}
	all := []api.Option{{Code: 1, Data: "a"}, {Code: 2, Data: "b"}, {Code: 3, Data: "c"}}
	if _, _, _, e := edns.Write(api.Edns{Options: all[:1]}); e != api.OK || !slices.Equal(all, []api.Option{{Code: 1, Data: "a"}, {Code: 2, Data: "b"}, {Code: 3, Data: "c"}}) {
		t.Error(all, e)
	}
	edns.Same(api.Edns{Options: all}, api.Edns{Options: all})
	if !slices.Equal(all, []api.Option{{Code: 1, Data: "a"}, {Code: 2, Data: "b"}, {Code: 3, Data: "c"}}) {
		t.Error(all)
	}
}
