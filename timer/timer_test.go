package timer_test

import (
	"math/rand"
	"slices"
	"testing"

	"hustings/api"
	"hustings/timer"
)

func must(t *testing.T, e api.Errno) {
	t.Helper()
	if e != api.OK {
		t.Fatal(e)
	}
}

func of(t *testing.T, puts ...[2]int64) *timer.Timers {
	t.Helper()
	x := timer.New()
	for _, p := range puts {
		must(t, x.Put(int(p[0]), p[1]))
	}
	return x
}

// P14.1, P14.2: the chapter's examples.
func TestExamples(t *testing.T) {
	x := of(t, [2]int64{1, 5}, [2]int64{2, 3}, [2]int64{3, 5})
	if id, at, is := x.Next(); id != 2 || at != 3 || !is {
		t.Error(id, at, is)
	}
	if l := x.Due(5); !slices.Equal(l, []int{2, 1, 3}) || x.Len() != 0 {
		t.Error(l, x.Len())
	}
	x = of(t, [2]int64{1, 5}, [2]int64{2, 5}, [2]int64{1, 5})
	if l := x.Due(9); !slices.Equal(l, []int{2, 1}) {
		t.Error(l)
	}
	if x.Drop(7) {
		t.Error("dropped")
	}
}

// P14.1, P14.2: nil, zero, and any numbers.
func TestEdges(t *testing.T) {
	var none *timer.Timers
	if none.Put(1, 1) != api.ErrNil || none.Drop(1) || len(none.Due(9)) != 0 || none.Len() != 0 || none.Copy() != nil {
		t.Error("nil")
	}
	if at, is := none.At(1); at != 0 || is {
		t.Error(at, is)
	}
	if id, at, is := none.Next(); id != 0 || at != 0 || is {
		t.Error(id, at, is)
	}
	for _, x := range []*timer.Timers{{}, timer.New(), (&timer.Timers{}).Copy()} {
		if at, is := x.At(0); at != 0 || is || x.Drop(0) || x.Len() != 0 || len(x.Due(1<<63-1)) != 0 {
			t.Error(at, is)
		}
		if id, at, is := x.Next(); id != 0 || at != 0 || is {
			t.Error(id, at, is)
		}
		must(t, x.Put(-1<<63, 1<<63-1))
		must(t, x.Put(1<<63-1, -1<<63))
		must(t, x.Put(0, 0))
		must(t, x.Put(-5, -5))
		if at, is := x.At(-1 << 63); at != 1<<63-1 || !is || x.Len() != 4 {
			t.Error(at, is)
		}
		if l := x.Due(-6); !slices.Equal(l, []int{1<<63 - 1}) {
			t.Error(l)
		}
		if l := x.Due(-5); !slices.Equal(l, []int{-5}) {
			t.Error(l)
		}
		if l := x.Due(1<<63 - 2); !slices.Equal(l, []int{0}) {
			t.Error(l)
		}
		if l := x.Due(1<<63 - 1); !slices.Equal(l, []int{-1 << 63}) || x.Len() != 0 {
			t.Error(l)
		}
	}
}

// model is the chapter's queue, told plainly: items in order.
type model [][2]int64

func (m *model) drop(id int) bool {
	for i, x := range *m {
		if x[0] == int64(id) {
			*m = slices.Delete(slices.Clone(*m), i, i+1)
			return true
		}
	}
	return false
}

func (m *model) put(id int, at int64) {
	m.drop(id)
	i := 0
	for i < len(*m) && (*m)[i][1] <= at {
		i++
	}
	*m = slices.Insert(slices.Clone(*m), i, [2]int64{int64(id), at})
}

func (m *model) due(now int64) []int {
	var l []int
	for len(*m) > 0 && (*m)[0][1] <= now {
		l = append(l, int((*m)[0][0]))
		*m = (*m)[1:]
	}
	return l
}

func check(t *testing.T, x *timer.Timers, m model) {
	t.Helper()
	if x.Len() != len(m) {
		t.Fatal(x.Len(), m)
	}
	id, at, is := x.Next()
	if is != (len(m) > 0) || is && (int64(id) != m[0][0] || at != m[0][1]) || !is && (id != 0 || at != 0) {
		t.Fatal(id, at, is, m)
	}
	for id := range 12 {
		i := slices.IndexFunc(m, func(y [2]int64) bool { return y[0] == int64(id) })
		at, is := x.At(id)
		if is != (i >= 0) || is && at != m[i][1] || !is && at != 0 {
			t.Fatal(id, at, is, m)
		}
	}
}

// P14.1 to P14.7: any calls.
func TestAny(t *testing.T) {
	r := rand.New(rand.NewSource(1))
	for range 400 {
		x, m := timer.New(), model{}
		for range 60 {
			if r.Intn(8) == 0 {
				old, was := x, slices.Clone(m)
				x = x.Copy()
				check(t, old, was)
				old.Put(r.Intn(12), int64(r.Intn(20)))
				old.Due(int64(r.Intn(20)))
				check(t, x, m)
			}
			id, at := r.Intn(12), int64(r.Intn(20))
			switch r.Intn(5) {
			case 0:
				if got, want := x.Drop(id), m.drop(id); got != want {
					t.Fatal(id, got, want)
				}
			case 1:
				c := x.Copy()
				got := x.Due(at / 2)
				if want := m.due(at / 2); !slices.Equal(got, want) {
					t.Fatal(at, got, want)
				}
				var steps []int
				for now := int64(-1); now <= at/2; now++ {
					steps = append(steps, c.Due(now)...)
				}
				if !slices.Equal(steps, got) {
					t.Fatal(steps, got)
				}
				check(t, c, m)
			default:
				must(t, x.Put(id, at))
				m.put(id, at)
			}
			check(t, x, m)
		}
		if got, want := x.Due(100), m.due(100); !slices.Equal(got, want) || x.Len() != 0 {
			t.Fatal(got, want)
		}
	}
}

// P14.5: an item put again at its own tick is last of that tick; one that is put and dropped leaves all as it was.
func TestAgain(t *testing.T) {
	r := rand.New(rand.NewSource(2))
	for range 500 {
		x := timer.New()
		for id := range 8 {
			must(t, x.Put(id, int64(r.Intn(4))))
		}
		c := x.Copy()
		must(t, c.Put(99, int64(r.Intn(4))))
		c.Drop(99)
		id := r.Intn(8)
		at, _ := x.At(id)
		y := x.Copy()
		must(t, y.Put(id, at))
		want := x.Due(9)
		if got := c.Due(9); !slices.Equal(got, want) {
			t.Fatal(got, want)
		}
		y.Due(at - 1)
		if l := y.Due(at); l[len(l)-1] != id {
			t.Fatal(l, id)
		}
	}
}

// P14.3: many items.
func TestMany(t *testing.T) {
	x := timer.New()
	const n = 20000
	for id := range n {
		must(t, x.Put(id, int64(id*7919%1000)))
	}
	last, lastAt := -1, int64(-1)
	for _, id := range x.Due(1000) {
		at := int64(id * 7919 % 1000)
		if at < lastAt || at == lastAt && id < last {
			t.Fatal(id, at, last, lastAt)
		}
		last, lastAt = id, at
	}
	if x.Len() != 0 {
		t.Error(x.Len())
	}
}
