package pend_test

import (
	"maps"
	"math/rand"
	"testing"

	"hustings/api"
	"hustings/draw"
	"hustings/pend"
)

func of(t *testing.T, ups int) *pend.Table {
	t.Helper()
	x, e := pend.New(ups)
	if e != api.OK {
		t.Fatal(e)
	}
	return x
}

func drawn(t *testing.T, x *pend.Table, u, slot int, tape *draw.Tape, want uint16) {
	t.Helper()
	if id, e := x.Draw(u, slot, tape); id != want || e != api.OK {
		t.Errorf("Draw(%d, %d): %d %v, not %d", u, slot, id, e, want)
	}
}

// P29.1, P29.2: the chapter's example.
func TestExample(t *testing.T) {
	x := of(t, 2)
	tape := draw.New(0, []uint64{5, 65541, 65535, 131071, 5})
	for i, want := range []uint16{5, 6, 65535, 0} {
		drawn(t, x, 0, i+1, tape, want)
	}
	if slot, is := x.Find(0, 6); slot != 2 || !is {
		t.Error(slot, is)
	}
	if slot, is := x.Find(1, 6); slot != 0 || is {
		t.Error(slot, is)
	}
	if n := x.Free(2); n != 1 {
		t.Error(n)
	}
	drawn(t, x, 0, 2, tape, 6)
	if tape.Used() != 5 || x.Len(0) != 4 || x.Len(1) != 0 {
		t.Error(tape.Used(), x.Len(0))
	}
}

// P29.1: what is refused, without a draw.
func TestRefused(t *testing.T) {
	for _, n := range []int{0, -1, 10, 1 << 62, -1 << 63} {
		if x, e := pend.New(n); x != nil || e != api.ErrArg {
			t.Error(n, e)
		}
	}
	var none *pend.Table
	tape := draw.New(0, nil)
	x := of(t, 9)
	var zero pend.Table
	for i, y := range []struct {
		x       *pend.Table
		u, slot int
		tape    *draw.Tape
		e       api.Errno
	}{
		{none, 0, 0, tape, api.ErrNil}, {none, 0, 0, nil, api.ErrNil}, {x, 0, 0, nil, api.ErrNil}, {x, 9, 99, nil, api.ErrNil}, {none, 9, 99, tape, api.ErrNil},
		{x, 9, 0, tape, api.ErrArg}, {x, -1, 0, tape, api.ErrArg}, {x, 0, -1, tape, api.ErrArg}, {x, 0, api.MaxFlights, tape, api.ErrArg}, {x, 1 << 62, 0, tape, api.ErrArg}, {x, 0, 1 << 62, tape, api.ErrArg},
		{&zero, 0, 0, tape, api.ErrArg}, {zero.Copy(), 0, 0, tape, api.ErrArg},
	} {
		if id, e := y.x.Draw(y.u, y.slot, y.tape); id != 0 || e != y.e || tape.Used() != 0 {
			t.Errorf("%d: %d %v", i, id, e)
		}
	}
	drawn(t, x, 8, api.MaxFlights-1, draw.New(0, []uint64{1<<64 - 2}), 65534)
	for _, y := range []*pend.Table{none, &zero, x} {
		for _, u := range []int{-1, 9, 1 << 62, -1 << 63} {
			if slot, is := y.Find(u, 65534); slot != 0 || is || y.Len(u) != 0 || y.FreeAt(31, u) != 0 {
				t.Error(u, slot, is)
			}
		}
	}
	if none.Free(0) != 0 || zero.Free(0) != 0 || none.Copy() != nil || none.Len(0) != 0 || x.Free(-1) != 0 || x.Free(1<<62) != 0 || x.Len(8) != 1 {
		t.Error("nil")
	}
}

// P29.1: all IDs of one upstream.
func TestFull(t *testing.T) {
	x := of(t, 2)
	tape := draw.New(7, nil)
	for range 1 << 16 {
		if _, e := x.Draw(1, 3, tape); e != api.OK {
			t.Fatal(e)
		}
		if x.Len(1) > 60000 {
			break
		}
	}
	down := draw.New(0, nil)
	for id := 1<<16 - 1; id >= 0; id-- {
		if _, is := x.Find(1, uint16(id)); !is {
			drawn(t, x, 1, 4, draw.New(0, []uint64{uint64(id)}), uint16(id))
		}
	}
	if id, e := x.Draw(1, 0, down); id != 0 || e != api.ErrFull || down.Used() != 0 || x.Len(1) != 1<<16 {
		t.Error(id, e, x.Len(1))
	}
	if id, e := x.Draw(1, -1, down); id != 0 || e != api.ErrArg {
		t.Error(id, e)
	}
	drawn(t, x, 0, 0, draw.New(0, []uint64{9}), 9)
	n := x.FreeAt(4, 1)
	if n != 1<<16-60001 || x.Len(1) != 60001 || x.Free(3) != 60001 || x.Len(1) != 0 || x.Len(0) != 1 {
		t.Error(n, x.Len(1))
	}
}

// P29.3 to P29.6: any calls.
func TestAny(t *testing.T) {
	r := rand.New(rand.NewSource(1))
	for range 300 {
		ups := 1 + r.Intn(3)
		x := of(t, ups)
		m := make([]map[uint16]int, ups)
		for u := range m {
			m[u] = map[uint16]int{}
		}
		for range 100 {
			if r.Intn(10) == 0 {
				old := x
				x = x.Copy()
				for slot := range 4 {
					old.Draw(0, 9, draw.New(0, []uint64{65530}))
					old.Free(slot)
				}
			}
			u, slot := r.Intn(ups), r.Intn(4)
			switch r.Intn(6) {
			case 0:
				n := 0
				for v := range m {
					n += len(m[v])
					maps.DeleteFunc(m[v], func(_ uint16, s int) bool { return s == slot })
					n -= len(m[v])
				}
				if got := x.Free(slot); got != n {
					t.Fatal(got, n)
				}
			case 1:
				n := len(m[u])
				maps.DeleteFunc(m[u], func(_ uint16, s int) bool { return s == slot })
				if got := x.FreeAt(slot, u); got != n-len(m[u]) {
					t.Fatal(got, n)
				}
			default:
				n := r.Uint64()<<16 | uint64((65530+r.Intn(12))%65536)
				tape := draw.New(0, []uint64{n})
				want := uint16(n)
				for {
					if _, is := m[u][want]; !is {
						break
					}
					want++
				}
				drawn(t, x, u, slot, tape, want)
				m[u][want] = slot
				if tape.Used() != 1 {
					t.Fatal(tape.Used())
				}
			}
			for v := range m {
				if x.Len(v) != len(m[v]) {
					t.Fatal(v, x.Len(v), len(m[v]))
				}
				for id := range 40 {
					at := uint16(65520 + id)
					slot, is := x.Find(v, at)
					if want, there := m[v][at]; slot != want || is != there {
						t.Fatal(v, at, slot, is)
					}
				}
			}
		}
	}
}
