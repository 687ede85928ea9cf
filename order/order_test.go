package order_test

import (
	"math/rand"
	"slices"
	"testing"

	"hustings/api"
	"hustings/draw"
	"hustings/order"
	"hustings/repute"
)

func of(t *testing.T, ups, limit, rest int) *repute.Book {
	t.Helper()
	b, e := repute.New(ups, limit, rest)
	if e != api.OK {
		t.Fatal(e)
	}
	return b
}

// P20.1: the chapter's examples.
func TestExamples(t *testing.T) {
	b := of(t, 3, 50, 10)
	if l := order.Order(b, draw.New(0, []uint64{0, 0})); !slices.Equal(l, []int{1, 2, 0}) {
		t.Error(l)
	}
	b.Dissent(1, 0)
	if l := order.Order(b, draw.New(0, []uint64{0, 0})); !slices.Equal(l, []int{2, 0, 1}) {
		t.Error(l)
	}
	if l := order.Order(b, draw.New(0, []uint64{2, 1})); !slices.Equal(l, []int{0, 2, 1}) {
		t.Error(l)
	}
}

// P20.1: without a book or a tape there is none, and no draw.
func TestNone(t *testing.T) {
	tape := draw.New(0, nil)
	if l := order.Order(nil, tape); len(l) != 0 {
		t.Error(l)
	}
	if l := order.Order(of(t, 3, 50, 10), nil); len(l) != 0 {
		t.Error(l)
	}
	if l := order.Order(nil, nil); len(l) != 0 {
		t.Error(l)
	}
	if l := order.Order(&repute.Book{}, tape); len(l) != 0 {
		t.Error(l)
	}
	if tape.Used() != 0 {
		t.Error(tape.Used())
	}
	if l := order.Order(of(t, 1, 50, 10), tape); !slices.Equal(l, []int{0}) || tape.Used() != 0 {
		t.Error(l, tape.Used())
	}
}

// P20.1, P20.3: those on trial are last, whatever their scores; suspended ones are not there.
func TestTrial(t *testing.T) {
	b := of(t, 5, 95, 10)
	b.Dissent(0, 0)
	b.Dissent(3, 0)
	if l := order.Order(b, draw.New(0, []uint64{0, 0})); !slices.Equal(l, []int{2, 4, 1}) {
		t.Error(l)
	}
	b.Back(10)
	b.Agree(3)
	for range 9 {
		b.Silent(1)
	}
	b.Silent(4)
	// Scores: 2 has 100, 4 has 98, 1 has 82; on trial 3 has 96, 0 has 95.
	for seed := range uint64(20) {
		if l := order.Order(b, draw.New(seed, nil)); !slices.Equal(l, []int{2, 4, 1, 3, 0}) {
			t.Error(seed, l)
		}
	}
}

func random(t *testing.T, r *rand.Rand) *repute.Book {
	n := 1 + 2*r.Intn(5)
	b := of(t, n, 80+r.Intn(21), 1+r.Intn(5))
	for i := range r.Intn(40) {
		u := r.Intn(n)
		switch r.Intn(5) {
		case 0:
			b.Silent(u)
		case 1:
			b.Dissent(u, int64(i))
		case 2:
			b.Back(int64(i))
		default:
			b.Agree(u)
		}
	}
	return b
}

// P20.1 to P20.6: any books.
func TestAny(t *testing.T) {
	r := rand.New(rand.NewSource(1))
	for range 3000 {
		b := random(t, r)
		seed := r.Uint64()
		tape := draw.New(seed, nil)
		before := b.Copy()
		l := order.Order(b, tape)
		may := b.May()
		sorted := slices.Clone(l)
		slices.Sort(sorted)
		if !slices.Equal(sorted, may) || tape.Used() != len(may)-1 {
			t.Fatal(l, may, tape.Used())
		}
		for u := range b.Len() {
			if b.Score(u) != before.Score(u) || b.Trial(u) != before.Trial(u) || b.Rests(u) != before.Rests(u) {
				t.Fatal("the book is changed")
			}
		}
		place := map[int]int{}
		var shuffled []int
		for i, at := range draw.New(seed, nil).Shuffle(len(may)) {
			place[may[at]] = i
			shuffled = append(shuffled, may[at])
		}
		equal := true
		for i := range l[1:] {
			x, y := l[i], l[i+1]
			if b.Trial(x) && !b.Trial(y) {
				t.Fatal(l)
			}
			if b.Trial(x) != b.Trial(y) {
				equal = false
				continue
			}
			if b.Score(x) < b.Score(y) || b.Score(x) == b.Score(y) && place[x] > place[y] {
				t.Fatal(l, x, y)
			}
			equal = equal && b.Score(x) == b.Score(y)
		}
		if equal && !slices.Equal(l, shuffled) {
			t.Fatal(l, shuffled)
		}
		if again := order.Order(b, draw.New(seed, nil)); !slices.Equal(again, l) {
			t.Fatal(again, l)
		}
	}
}
