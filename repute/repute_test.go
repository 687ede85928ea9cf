package repute_test

import (
	"math/rand"
	"slices"
	"testing"

	"hustings/api"
	"hustings/repute"
)

func of(t *testing.T, ups, limit, rest int) *repute.Book {
	t.Helper()
	b, e := repute.New(ups, limit, rest)
	if e != api.OK {
		t.Fatal(e)
	}
	return b
}

func must(t *testing.T, e api.Errno) {
	t.Helper()
	if e != api.OK {
		t.Fatal(e)
	}
}

// P19.1, P19.2: the chapter's example.
func TestExample(t *testing.T) {
	b := of(t, 3, 95, 10)
	must(t, b.Dissent(0, 4))
	if b.Score(0) != 90 || !b.Rests(0) || b.Trial(0) || !slices.Equal(b.May(), []int{1, 2}) {
		t.Error(b.Score(0), b.Rests(0))
	}
	if at, is := b.Due(); at != 14 || !is {
		t.Error(at, is)
	}
	must(t, b.Dissent(2, 5))
	if b.Score(2) != 90 || b.Rests(2) {
		t.Error(b.Score(2), b.Rests(2))
	}
	if l := b.Back(13); len(l) != 0 || !b.Rests(0) {
		t.Error(l)
	}
	if l := b.Back(14); !slices.Equal(l, []int{0}) || b.Rests(0) || !b.Trial(0) || b.Score(0) != 95 {
		t.Error(l, b.Trial(0), b.Score(0))
	}
	if at, is := b.Due(); at != 0 || is {
		t.Error(at, is)
	}
	for i := range 5 {
		if !b.Trial(0) {
			t.Error("the trial is over after", i)
		}
		must(t, b.Agree(0))
	}
	if b.Trial(0) || b.Score(0) != 100 {
		t.Error(b.Trial(0), b.Score(0))
	}
	must(t, b.Silent(0))
	if b.Trial(0) || b.Score(0) != 98 {
		t.Error("on trial again", b.Score(0))
	}
	if a, d, s := b.Counts(0); a != 5 || d != 1 || s != 1 {
		t.Error(a, d, s)
	}
}

// P19.1: what is refused.
func TestRefused(t *testing.T) {
	for _, x := range [][3]int{
		{0, 50, 10}, {2, 50, 10}, {-1, 50, 10}, {8, 50, 10}, {11, 50, 10}, {-3, 50, 10}, {1 << 62, 50, 10}, {1<<63 - 1, 50, 10}, {-1 << 63, 50, 10}, {3, 0, 10}, {3, 101, 10}, {3, -1, 10},
		{3, 50, 0}, {3, 50, 100001}, {3, 50, -1},
	} {
		if b, e := repute.New(x[0], x[1], x[2]); b != nil || e != api.ErrArg {
			t.Error(x, e)
		}
	}
	for _, x := range [][3]int{{1, 1, 1}, {9, 100, 100000}, {3, 1, 100000}, {5, 100, 1}} {
		b := of(t, x[0], x[1], x[2])
		if b.Len() != x[0] || len(b.May()) != x[0] {
			t.Error(x)
		}
		for u := range x[0] {
			if a, d, s := b.Counts(u); b.Score(u) != 100 || b.Rests(u) || b.Trial(u) || a != 0 || d != 0 || s != 0 {
				t.Error(x, u)
			}
		}
	}
	b := of(t, 3, 50, 10)
	for _, u := range []int{-1, 3, 1 << 62, -1 << 63} {
		if b.Agree(u) != api.ErrArg || b.Dissent(u, 0) != api.ErrArg || b.Silent(u) != api.ErrArg || b.Score(u) != 0 || b.Rests(u) || b.Trial(u) {
			t.Error(u)
		}
		if a, d, s := b.Counts(u); a != 0 || d != 0 || s != 0 {
			t.Error(u)
		}
	}
	for _, now := range []int64{-1, api.MaxTicks + 1, -1 << 63, 1<<63 - 1} {
		if b.Dissent(1, now) != api.ErrArg || b.Score(1) != 100 {
			t.Error(now)
		}
	}
	must(t, b.Dissent(1, api.MaxTicks))
	must(t, b.Dissent(1, 0))
	if b.Score(1) != 80 {
		t.Error(b.Score(1))
	}
}

// P19.2: nil, and a zero Book.
func TestNone(t *testing.T) {
	var none *repute.Book
	if none.Agree(0) != api.ErrNil || none.Dissent(0, -1) != api.ErrNil || none.Silent(9) != api.ErrNil || none.Copy() != nil {
		t.Error("nil")
	}
	var zero repute.Book
	if zero.Agree(0) != api.ErrArg || zero.Dissent(0, 0) != api.ErrArg || zero.Silent(0) != api.ErrArg {
		t.Error("zero")
	}
	for _, b := range []*repute.Book{none, &zero, zero.Copy()} {
		at, is := b.Due()
		a, d, s := b.Counts(0)
		if len(b.Back(99)) != 0 || len(b.May()) != 0 || b.Score(0) != 0 || a+d+s != 0 || b.Rests(0) || b.Trial(0) || at != 0 || is || b.Len() != 0 {
			t.Error(b)
		}
	}
}

// P19.4: counters and scores have bounds.
func TestBounds(t *testing.T) {
	b := of(t, 1, 50, 10)
	for range api.MaxCount + 10 {
		must(t, b.Agree(0))
	}
	if a, d, s := b.Counts(0); a != api.MaxCount || d != 0 || s != 0 || b.Score(0) != 100 {
		t.Error(a, d, s, b.Score(0))
	}
	for i := range 60 {
		must(t, b.Silent(0))
		if want := max(0, 98-2*i); b.Score(0) != want {
			t.Error(i, b.Score(0))
		}
	}
	must(t, b.Agree(0))
	must(t, b.Silent(0))
	if b.Score(0) != 0 {
		t.Error(b.Score(0))
	}
	must(t, b.Agree(0))
	must(t, b.Dissent(0, 0))
	if b.Score(0) != 0 {
		t.Error(b.Score(0))
	}
	for range api.MaxCount + 10 {
		must(t, b.Silent(0))
		must(t, b.Dissent(0, 0))
	}
	if a, d, s := b.Counts(0); a != api.MaxCount || d != api.MaxCount || s != api.MaxCount || b.Rests(0) {
		t.Error(a, d, s)
	}
}

// P19.5, P19.7: when an upstream is suspended, and for how long.
func TestSuspension(t *testing.T) {
	b := of(t, 5, 50, 7)
	for i := range 5 {
		must(t, b.Dissent(0, int64(i)))
		if b.Rests(0) {
			t.Fatal("suspended at the limit", b.Score(0))
		}
	}
	for range 3 {
		must(t, b.Silent(0))
	}
	if b.Rests(0) || b.Score(0) != 44 {
		t.Error("suspended for its silence", b.Score(0))
	}
	must(t, b.Dissent(0, 20))
	if !b.Rests(0) || b.Score(0) != 34 {
		t.Error(b.Score(0))
	}
	must(t, b.Dissent(0, 25))
	must(t, b.Agree(0))
	if at, is := b.Due(); at != 27 || !is || b.Score(0) != 25 || !b.Rests(0) {
		t.Error(at, is, b.Score(0))
	}
	if l := b.Back(26); len(l) != 0 {
		t.Error(l)
	}
	if l := b.Back(99); !slices.Equal(l, []int{0}) || b.Score(0) != 50 || !b.Trial(0) {
		t.Error(l)
	}
	if l := b.Back(99); len(l) != 0 {
		t.Error(l)
	}
	// On trial below the limit it is suspended again, and no longer on trial.
	must(t, b.Dissent(0, 100))
	if !b.Rests(0) || b.Trial(0) || b.Score(0) != 40 {
		t.Error(b.Rests(0), b.Trial(0))
	}
	if at, is := b.Due(); at != 107 || !is {
		t.Error(at, is)
	}
}

// P19.2, P19.3: several rest, but enough are left.
func TestEnough(t *testing.T) {
	b := of(t, 5, 100, 10)
	for i, u := range []int{4, 1, 3, 0, 2} {
		must(t, b.Dissent(u, int64(10-i)))
		if b.Rests(u) != (i < 2) {
			t.Error(u, b.Rests(u))
		}
	}
	if at, is := b.Due(); at != 19 || !is || !slices.Equal(b.May(), []int{0, 2, 3}) {
		t.Error(at, is, b.May())
	}
	if l := b.Back(20); !slices.Equal(l, []int{1, 4}) {
		t.Error(l)
	}
	// With the greatest limit there is no trial.
	if b.Trial(1) || b.Trial(4) || b.Score(1) != 100 {
		t.Error(b.Trial(1), b.Score(1))
	}
	one := of(t, 1, 100, 10)
	must(t, one.Dissent(0, 0))
	if one.Rests(0) {
		t.Error("the only one rests")
	}
}

// P19.6: the bound of the trial.
func TestTrial(t *testing.T) {
	for _, limit := range []int{1, 50, 89, 90, 91, 99} {
		b := of(t, 3, limit, 10)
		for !b.Rests(1) {
			must(t, b.Dissent(1, 0))
			must(t, b.Silent(1))
			if b.Score(1) == 0 && !b.Rests(1) {
				must(t, b.Dissent(1, 0))
			}
		}
		b.Back(10)
		for score := limit; score < min(limit+10, 100); score++ {
			if !b.Trial(1) || b.Score(1) != score {
				t.Fatal(limit, b.Score(1), b.Trial(1))
			}
			must(t, b.Agree(1))
		}
		if b.Trial(1) {
			t.Fatal(limit, b.Score(1))
		}
	}
}

// one is an upstream of the model.
type one struct {
	score, agree, dissent, silent int
	rests, trial                  bool
	until                         int64
}

// P19.2 to P19.7: any calls, held against S7 told plainly.
func TestAny(t *testing.T) {
	r := rand.New(rand.NewSource(1))
	for range 300 {
		n, limit, rest := 1+2*r.Intn(5), 1+r.Intn(100), 1+r.Intn(20)
		b := of(t, n, limit, rest)
		m := make([]one, n)
		for u := range m {
			m[u].score = 100
		}
		now := int64(0)
		for range 150 {
			now += int64(r.Intn(3))
			u := r.Intn(n)
			if r.Intn(3) > 0 {
				u = 0
			}
			x := &m[u]
			if r.Intn(10) == 0 {
				old := b
				b = b.Copy()
				must(t, old.Dissent(u, now))
				must(t, old.Agree(u))
				old.Back(now + 99)
			}
			switch r.Intn(6) {
			case 0, 1:
				must(t, b.Agree(u))
				x.agree++
				x.score = min(100, x.score+1)
				if x.score >= min(limit+10, 100) {
					x.trial = false
				}
			case 2:
				must(t, b.Silent(u))
				x.silent++
				x.score = max(0, x.score-2)
			case 3:
				var want []int
				for u := range m {
					if m[u].rests && m[u].until <= now {
						m[u].rests, m[u].score, m[u].trial = false, limit, limit < 100
						want = append(want, u)
					}
				}
				if l := b.Back(now); !slices.Equal(l, want) {
					t.Fatal(l, want)
				}
			default:
				must(t, b.Dissent(u, now))
				x.dissent++
				x.score = max(0, x.score-10)
				left := 0
				for v := range m {
					if v != u && !m[v].rests {
						left++
					}
				}
				if x.score < limit && !x.rests && left >= n/2+1 {
					x.rests, x.trial, x.until = true, false, now+int64(rest)
				}
			}
			check(t, b, m)
		}
	}
}

func check(t *testing.T, b *repute.Book, m []one) {
	t.Helper()
	var may []int
	due, is := int64(0), false
	for u, x := range m {
		a, d, s := b.Counts(u)
		if b.Score(u) != x.score || b.Rests(u) != x.rests || b.Trial(u) != x.trial || a != x.agree || d != x.dissent || s != x.silent {
			t.Fatal(u, b.Score(u), b.Rests(u), b.Trial(u), x)
		}
		if !x.rests {
			may = append(may, u)
		} else if !is || x.until < due {
			due, is = x.until, true
		}
	}
	if !slices.Equal(b.May(), may) || len(may) < len(m)/2+1 || b.Len() != len(m) {
		t.Fatal(b.May(), may)
	}
	if at, there := b.Due(); at != due || there != is {
		t.Fatal(at, there, due)
	}
}
