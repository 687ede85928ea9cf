package draw_test

import (
	"math/rand"
	"slices"
	"testing"

	"hustings/api"
	"hustings/draw"
)

// splitmix is S10's generator, told plainly.
type splitmix uint64

func (s *splitmix) next() uint64 {
	*s += 0x9E3779B97F4A7C15
	z := uint64(*s)
	z = (z ^ (z >> 30)) * 0xBF58476D1CE4E5B9
	z = (z ^ (z >> 27)) * 0x94D049BB133111EB
	return z ^ (z >> 31)
}

func draws(t *draw.Tape, n int) []uint64 {
	var l []uint64
	for range n {
		l = append(l, t.Next())
	}
	return l
}

// P12.1, P12.2: the chapter's examples.
func TestExamples(t *testing.T) {
	tape := draw.New(0, []uint64{7, 9})
	if l := draws(tape, 4); !slices.Equal(l, []uint64{7, 9, 0xE220A8397B1DCDAF, 0x6E789E6AA1B965F4}) || tape.Used() != 4 {
		t.Errorf("%x %d", l, tape.Used())
	}
	if n := draw.New(0, []uint64{47}).Below(10); n != 7 {
		t.Error(n)
	}
	if l := draw.New(0, []uint64{0, 0}).Shuffle(3); !slices.Equal(l, []int{1, 2, 0}) {
		t.Error(l)
	}
	var zero draw.Tape
	if l := draws(&zero, 2); !slices.Equal(l, []uint64{0xE220A8397B1DCDAF, 0x6E789E6AA1B965F4}) || zero.Used() != 2 {
		t.Errorf("%x", l)
	}
}

// P12.3, P12.6: the tape's numbers first, and then those of the seed alone.
func TestTape(t *testing.T) {
	r := rand.New(rand.NewSource(1))
	for range 300 {
		seed, other := r.Uint64(), r.Uint64()
		var first []uint64
		for range r.Intn(5) {
			first = append(first, r.Uint64())
		}
		tape := draw.New(seed, first)
		if tape.Used() != 0 {
			t.Fatal(tape.Used())
		}
		got := draws(tape, len(first)+20)
		s := splitmix(seed)
		want := slices.Clone(first)
		for range 20 {
			want = append(want, s.next())
		}
		if !slices.Equal(got, want) || tape.Used() != len(want) {
			t.Fatalf("%x, not %x", got, want)
		}
		if seed != other {
			for i, n := range draws(draw.New(other, nil), 20) {
				if n == got[len(first)+i] {
					t.Fatal("two seeds, one draw")
				}
			}
		}
	}
	l := draws(draw.New(1<<64-1, nil), 3)
	s := splitmix(1<<64 - 1)
	if !slices.Equal(l, []uint64{s.next(), s.next(), s.next()}) {
		t.Errorf("%x", l)
	}
}

// P12.4: draws below n.
func TestBelow(t *testing.T) {
	r := rand.New(rand.NewSource(2))
	for range 2000 {
		n := 1 + r.Intn(1<<uint(1+r.Intn(62)))
		x := r.Uint64()
		tape := draw.New(0, []uint64{x})
		if got := tape.Below(n); uint64(got) != x%uint64(n) || tape.Used() != 1 {
			t.Fatal(n, x, got, tape.Used())
		}
	}
	tape := draw.New(5, []uint64{1<<64 - 1, 8})
	if n := tape.Below(1); n != 0 || tape.Used() != 1 {
		t.Error(n, tape.Used())
	}
	for _, n := range []int{0, -1, -1 << 63} {
		if got := tape.Below(n); got != 0 || tape.Used() != 1 {
			t.Error(n, got, tape.Used())
		}
	}
	if n := draw.New(0, []uint64{1<<64 - 1}).Below(1<<63 - 1); n != 1 {
		t.Error(n)
	}
	if n := draw.New(0, []uint64{1<<64 - 1}).Below(10); n != 5 {
		t.Error(n)
	}
}

// P12.5: shuffling.
func TestShuffle(t *testing.T) {
	r := rand.New(rand.NewSource(3))
	for n := 1; n <= api.MaxTape; n++ {
		seed := r.Uint64()
		tape := draw.New(seed, nil)
		l := tape.Shuffle(n)
		if tape.Used() != n-1 || len(l) != n {
			t.Fatal(n, tape.Used(), len(l))
		}
		want := make([]int, n)
		for i := range want {
			want[i] = i
		}
		s := splitmix(seed)
		for i := n - 1; i >= 1; i-- {
			j := int(s.next() % uint64(i+1))
			want[i], want[j] = want[j], want[i]
		}
		if !slices.Equal(l, want) {
			t.Fatal(n, l, want)
		}
		slices.Sort(want)
		for i, x := range want {
			if i != x {
				t.Fatal(n, l)
			}
		}
		var same []uint64
		for i := n - 1; i >= 1; i-- {
			same = append(same, uint64(i))
		}
		if l := draw.New(0, same).Shuffle(n); !slices.IsSorted(l) {
			t.Fatal(n, l)
		}
	}
	tape := draw.New(0, nil)
	for _, n := range []int{0, -1, -1 << 63, api.MaxTape + 1, 1<<63 - 1} {
		if l := tape.Shuffle(n); len(l) != 0 || tape.Used() != 0 {
			t.Error(n, len(l), tape.Used())
		}
	}
	if l := tape.Shuffle(1); !slices.Equal(l, []int{0}) || tape.Used() != 0 {
		t.Error(l)
	}
}

// P12.7: copies.
func TestCopy(t *testing.T) {
	for _, tape := range []*draw.Tape{draw.New(3, []uint64{1, 2, 3}), {}, draw.New(3, nil)} {
		for range 5 {
			c, d := tape.Copy(), tape.Copy()
			want := draws(c, 6)
			if tape.Used() != d.Used() || c.Used() != d.Used()+6 {
				t.Fatal(tape.Used(), c.Used(), d.Used())
			}
			if got := draws(d, 6); !slices.Equal(got, want) {
				t.Fatal(got, want)
			}
			if got := tape.Next(); got != want[0] {
				t.Fatal(got, want)
			}
			e := tape.Copy()
			tape.Next()
			if got := e.Next(); got != want[1] {
				t.Fatal(got, want)
			}
		}
	}
}

// P12.1, R2, R3: nil, and the numbers are the tape's own.
func TestNil(t *testing.T) {
	var none *draw.Tape
	if none.Next() != 0 || none.Below(5) != 0 || len(none.Shuffle(5)) != 0 || none.Used() != 0 || none.Copy() != nil {
		t.Error("nil")
	}
	first := []uint64{1, 2, 3}
	tape := draw.New(0, first[:2])
	first[0], first[1] = 8, 9
	if l := draws(tape, 3); !slices.Equal(l, []uint64{1, 2, 0xE220A8397B1DCDAF}) || first[2] != 3 {
		t.Error(l, first)
	}
	a, b := draw.New(0, nil).Shuffle(4), draw.New(0, nil).Shuffle(4)
	a[0] = 99
	if b[0] == 99 {
		t.Error("shared")
	}
}
