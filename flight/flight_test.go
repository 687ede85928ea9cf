package flight_test

import (
	"math/rand"
	"slices"
	"strconv"
	"testing"

	"hustings/api"
	"hustings/flight"
	"hustings/name"
)

func ask(s string, kind uint16) api.Question {
	n, e := name.Parse(s)
	if e != api.OK {
		panic(s)
	}
	return api.Question{Name: n, Type: kind, Class: api.IN}
}

func of(t *testing.T, flights, waiters int) *flight.Table {
	t.Helper()
	x, e := flight.New(flights, waiters)
	if e != api.OK {
		t.Fatal(e)
	}
	return x
}

func begin(t *testing.T, x *flight.Table, q api.Question, slot int, want api.Errno) {
	t.Helper()
	if got, e := x.Begin(q); got != slot || e != want {
		t.Errorf("Begin(%v): %d %v", q, got, e)
	}
}

func end(t *testing.T, x *flight.Table, slot int, want ...int) {
	t.Helper()
	l, e := x.End(slot)
	var got []int
	for _, w := range l {
		got = append(got, w.Client)
		if w.Data != "data of "+strconv.Itoa(w.Client) {
			t.Errorf("%q", w.Data)
		}
	}
	if e != api.OK || !slices.Equal(got, want) {
		t.Errorf("End(%d): %v %v", slot, got, e)
	}
}

func client(n int) flight.Waiter {
	return flight.Waiter{Client: n, Data: "data of " + strconv.Itoa(n)}
}

// P27.1, P27.2: the chapter's example.
func TestExample(t *testing.T) {
	x := of(t, 2, 1)
	begin(t, x, ask("ex.", api.A), 0, api.OK)
	begin(t, x, ask("EX.", api.A), 0, api.ErrHave)
	begin(t, x, ask("ex.", api.AAAA), 1, api.OK)
	begin(t, x, ask("a.", api.A), 0, api.ErrFull)
	if e := x.Join(0, client(7)); e != api.OK {
		t.Error(e)
	}
	if e := x.Join(0, client(8)); e != api.ErrFull {
		t.Error(e)
	}
	end(t, x, 0, 7)
	if l := x.Row(); !slices.Equal(l, []int{1}) {
		t.Error(l)
	}
	begin(t, x, ask("a.", api.A), 0, api.OK)
	if l := x.Row(); !slices.Equal(l, []int{1, 0}) || x.Len() != 2 {
		t.Error(l)
	}
}

// P27.1: what is refused, in its order.
func TestRefused(t *testing.T) {
	for _, x := range [][2]int{{0, 1}, {33, 1}, {-1, 1}, {1, 0}, {1, 17}, {1, -1}, {1 << 62, 1}, {1, 1 << 62}} {
		if tab, e := flight.New(x[0], x[1]); tab != nil || e != api.ErrArg {
			t.Error(x, e)
		}
	}
	of(t, 32, 16)
	x := of(t, 1, 1)
	begin(t, x, ask("ex.", 1), 0, api.OK)
	for _, n := range []string{"", "ex", "\xC0\x00"} {
		begin(t, x, api.Question{Name: n, Type: 1, Class: 1}, 0, api.ErrArg)
		if slot, is := x.Find(api.Question{Name: n, Type: 1, Class: 1}); slot != 0 || is {
			t.Error(slot, is)
		}
	}
	begin(t, x, ask("ex.", 1), 0, api.ErrHave)
	begin(t, x, ask("a.", 1), 0, api.ErrFull)
	for _, slot := range []int{-1, 1, 1 << 62, -1 << 63} {
		if e := x.Join(slot, client(-1)); e != api.ErrNone {
			t.Error(slot, e)
		}
		if l, e := x.End(slot); len(l) != 0 || e != api.ErrNone {
			t.Error(slot, e)
		}
		if q, is := x.Question(slot); is || q != (api.Question{}) || x.Waits(slot) != 0 {
			t.Error(slot, q)
		}
	}
	for _, n := range []int{-1, api.MaxClient + 1, 1 << 62, -1 << 63} {
		if e := x.Join(0, client(n)); e != api.ErrArg {
			t.Error(n, e)
		}
	}
	if x.Waits(0) != 0 || x.Join(0, client(api.MaxClient)) != api.OK || x.Join(0, client(-1)) != api.ErrArg || x.Join(0, client(0)) != api.ErrFull || x.Waits(0) != 1 {
		t.Error(x.Waits(0))
	}
}

// P27.1, P27.2: nil, and a zero Table.
func TestNone(t *testing.T) {
	var none *flight.Table
	begin(t, none, api.Question{}, 0, api.ErrNil)
	if l, e := none.End(0); len(l) != 0 || e != api.ErrNil || none.Join(0, client(-1)) != api.ErrNil || none.Copy() != nil {
		t.Error(e)
	}
	var zero flight.Table
	begin(t, &zero, api.Question{}, 0, api.ErrArg)
	begin(t, &zero, ask("ex.", 1), 0, api.ErrFull)
	if l, e := zero.End(0); len(l) != 0 || e != api.ErrNone || zero.Join(0, client(1)) != api.ErrNone {
		t.Error(e)
	}
	for _, x := range []*flight.Table{none, &zero, zero.Copy()} {
		slot, is := x.Find(ask("ex.", 1))
		q, is2 := x.Question(0)
		if slot != 0 || is || q != (api.Question{}) || is2 || x.Waits(0) != 0 || len(x.Row()) != 0 || x.Len() != 0 {
			t.Error(x)
		}
	}
}

// one is a question of the model.
type one struct {
	slot  int
	q     api.Question
	waits []int
}

func check(t *testing.T, x *flight.Table, m []one, flights int) {
	t.Helper()
	var row []int
	for _, y := range m {
		row = append(row, y.slot)
		q, is := x.Question(y.slot)
		if !is || q != y.q || x.Waits(y.slot) != len(y.waits) {
			t.Fatal(q, is, y)
		}
		q.Name = string(q.Name[:1]) + string([]byte{q.Name[1] - 0x20}) + q.Name[2:]
		if slot, is := x.Find(q); slot != y.slot || !is {
			t.Fatal(slot, is, y)
		}
	}
	if !slices.Equal(x.Row(), row) || x.Len() != len(m) || len(m) > flights {
		t.Fatal(x.Row(), row)
	}
	for slot := -1; slot <= flights; slot++ {
		if _, is := x.Question(slot); is != slices.Contains(row, slot) {
			t.Fatal(slot, is)
		}
	}
}

// P27.2 to P27.7: any calls.
func TestAny(t *testing.T) {
	r := rand.New(rand.NewSource(1))
	for range 400 {
		flights, waiters := 1+r.Intn(4), 1+r.Intn(4)
		x := of(t, flights, waiters)
		var m []one
		for step := range 80 {
			if r.Intn(8) == 0 {
				old := x
				x = x.Copy()
				for slot := range flights {
					old.Join(slot, client(99))
					old.End(slot)
				}
				old.Begin(ask("other.", 1))
			}
			q := ask([]string{"a.", "b.", "c.", "d.", "A."}[r.Intn(5)], uint16(1+r.Intn(2)))
			fold := q
			fold.Name = name.Fold(q.Name)
			at := slices.IndexFunc(m, func(y one) bool { return y.q == fold })
			slot := r.Intn(flights+2) - 1
			in := slices.IndexFunc(m, func(y one) bool { return y.slot == slot })
			switch r.Intn(5) {
			case 0:
				got, e := x.End(slot)
				if in < 0 {
					if e != api.ErrNone || len(got) != 0 {
						t.Fatal(e)
					}
					break
				}
				var clients []int
				for _, w := range got {
					clients = append(clients, w.Client)
				}
				if e != api.OK || !slices.Equal(clients, m[in].waits) {
					t.Fatal(clients, m[in], e)
				}
				m = slices.Delete(m, in, in+1)
			case 1, 2:
				e := x.Join(slot, client(step))
				switch {
				case in < 0:
					if e != api.ErrNone {
						t.Fatal(e)
					}
				case len(m[in].waits) == waiters:
					if e != api.ErrFull {
						t.Fatal(e)
					}
				default:
					if e != api.OK {
						t.Fatal(e)
					}
					m[in].waits = append(slices.Clone(m[in].waits), step)
				}
			default:
				free := 0
				for slices.ContainsFunc(m, func(y one) bool { return y.slot == free }) {
					free++
				}
				switch {
				case at >= 0:
					begin(t, x, q, 0, api.ErrHave)
				case len(m) == flights:
					begin(t, x, q, 0, api.ErrFull)
				default:
					begin(t, x, q, free, api.OK)
					m = append(slices.Clone(m), one{slot: free, q: fold})
				}
			}
			check(t, x, m, flights)
		}
	}
}

// P27.6: a slot that is taken again has nobody of the last time.
func TestAgain(t *testing.T) {
	x := of(t, 1, 3)
	for i := range 5 {
		begin(t, x, ask("ex.", 1), 0, api.OK)
		if x.Waits(0) != 0 {
			t.Error(x.Waits(0))
		}
		for c := range i % 4 {
			if e := x.Join(0, client(10*i+c)); e != api.OK {
				t.Error(e)
			}
		}
		y := x.Copy()
		l, _ := x.End(0)
		for c, w := range l {
			if w != client(10*i+c) {
				t.Error(w)
			}
			l[c] = client(0)
		}
		if y.Waits(0) != len(l) {
			t.Error(y.Waits(0))
		}
		back, _ := y.End(0)
		for c, w := range back {
			if w != client(10*i+c) {
				t.Error("shared", w)
			}
		}
	}
	x.Begin(ask("a.", 1))
	x.Row()[0] = 9
	if !slices.Equal(x.Row(), []int{0}) {
		t.Error("shared")
	}
}
