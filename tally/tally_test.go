package tally_test

import (
	"math/rand"
	"slices"
	"testing"

	"hustings/api"
	"hustings/tally"
)

// said is a verdict that can be told from others by a number.
func said(n int) api.Verdict {
	data := string([]byte{10, 0, 0, byte(n)})
	return api.Verdict{Sets: []api.Set{{Name: "\x01a\x00", Type: api.A, Class: api.IN, Data: []string{data, data + "x"}}}, Soa: []api.Set{{Name: "\x00", Data: []string{data}}}}
}

func same(a, b api.Verdict) bool {
	set := func(x, y api.Set) bool {
		return x.Name == y.Name && x.Type == y.Type && x.Class == y.Class && x.TTL == y.TTL && slices.Equal(x.Data, y.Data)
	}
	return a.Code == b.Code && slices.EqualFunc(a.Sets, b.Sets, set) && slices.EqualFunc(a.Soa, b.Soa, set)
}

func of(t *testing.T, want int) *tally.Box {
	t.Helper()
	b, e := tally.New(want)
	if e != api.OK {
		t.Fatal(e)
	}
	return b
}

func cast(t *testing.T, b *tally.Box, up, n int, time uint32) {
	t.Helper()
	if e := b.Cast(tally.Vote{Up: up, Verdict: said(n), Time: time}); e != api.OK {
		t.Fatal(e)
	}
}

func won(t *testing.T, b *tally.Box, n int, time uint32, by, against []int) {
	t.Helper()
	v, got, ups, is := b.Won()
	if !is || !same(v, said(n)) || got != time || !slices.Equal(ups, by) || !slices.Equal(b.Against(), against) {
		t.Errorf("%v %d %v %v against %v", v, got, ups, is, b.Against())
	}
}

func notWon(t *testing.T, b *tally.Box) {
	t.Helper()
	v, time, by, is := b.Won()
	if is || !same(v, api.Verdict{}) || time != 0 || len(by) != 0 || len(b.Against()) != 0 {
		t.Errorf("%v %d %v %v against %v", v, time, by, is, b.Against())
	}
}

// P21.1, P21.2: the chapter's example.
func TestExample(t *testing.T) {
	b := of(t, 2)
	notWon(t, b)
	cast(t, b, 0, 1, 9)
	notWon(t, b)
	cast(t, b, 1, 2, 1)
	notWon(t, b)
	cast(t, b, 2, 1, 5)
	won(t, b, 1, 5, []int{0, 2}, []int{1})
	if e := b.Cast(tally.Vote{Up: 1, Verdict: said(1)}); e != api.ErrHave {
		t.Error(e)
	}
	if n := b.Most(); n != 2 {
		t.Error(n)
	}
}

// P21.1: what is refused.
func TestRefused(t *testing.T) {
	for _, n := range []int{0, -1, 10, 1 << 62, -1 << 63} {
		if b, e := tally.New(n); b != nil || e != api.ErrArg {
			t.Error(n, e)
		}
	}
	of(t, 9)
	b := of(t, 1)
	for _, u := range []int{-1, 9, 1 << 62, -1 << 63} {
		if b.Cast(tally.Vote{Up: u, Verdict: said(1)}) != api.ErrArg || b.Pass(u) != api.ErrArg || b.Has(u) {
			t.Error(u)
		}
	}
	notWon(t, b)
	var none *tally.Box
	if none.Cast(tally.Vote{Up: -1}) != api.ErrNil || none.Pass(-1) != api.ErrNil || none.Most() != 0 || len(none.Votes()) != 0 || none.Has(0) || none.Copy() != nil {
		t.Error("nil")
	}
	notWon(t, none)
}

// P21.1: a zero Box wants more than can come.
func TestZero(t *testing.T) {
	var zero tally.Box
	for _, b := range []*tally.Box{&zero, zero.Copy()} {
		notWon(t, b)
		for u := range api.MaxUps {
			cast(t, b, u, 1, 1)
			notWon(t, b)
		}
		if b.Most() != api.MaxUps || len(b.Votes()) != api.MaxUps || !b.Has(8) {
			t.Error(b.Most())
		}
	}
}

// P21.2, P21.5: it is won by the first ones that came, in increasing order, and stays so.
func TestFinal(t *testing.T) {
	b := of(t, 2)
	cast(t, b, 7, 1, 20)
	cast(t, b, 5, 2, 30)
	cast(t, b, 3, 1, 40)
	won(t, b, 1, 20, []int{3, 7}, []int{5})
	cast(t, b, 2, 2, 1)
	cast(t, b, 8, 2, 1)
	cast(t, b, 0, 1, 1)
	if e := b.Pass(1); e != api.OK {
		t.Error(e)
	}
	won(t, b, 1, 20, []int{3, 7}, []int{2, 5, 8})
	if b.Most() != 3 {
		t.Error(b.Most())
	}
	one := of(t, 1)
	cast(t, one, 4, 2, 1<<32-1)
	won(t, one, 2, 1<<32-1, []int{4}, nil)
}

// P21.6: passes, and second ballots.
func TestPasses(t *testing.T) {
	b := of(t, 2)
	if e := b.Pass(0); e != api.OK || !b.Has(0) || b.Has(1) {
		t.Error(e)
	}
	for _, e := range []api.Errno{b.Pass(0), b.Cast(tally.Vote{Up: 0, Verdict: said(1)})} {
		if e != api.ErrHave {
			t.Error(e)
		}
	}
	cast(t, b, 1, 1, 5)
	if b.Pass(1) != api.ErrHave || b.Cast(tally.Vote{Up: 1, Verdict: said(2), Time: 1}) != api.ErrHave {
		t.Error("twice")
	}
	if b.Pass(2) != api.OK || b.Most() != 1 || len(b.Votes()) != 1 {
		t.Error(b.Most())
	}
	notWon(t, b)
	cast(t, b, 3, 1, 6)
	won(t, b, 1, 5, []int{1, 3}, nil)
}

// P21.2: verdicts that differ in any part are not the same.
func TestDiffer(t *testing.T) {
	for i, change := range []func(v *api.Verdict){
		func(v *api.Verdict) { v.Code = 3 }, func(v *api.Verdict) { v.Sets[0].Data[1] = "z" }, func(v *api.Verdict) { v.Soa[0].Data[0] = "z" }, func(v *api.Verdict) { v.Sets[0].Name = "\x01b\x00" },
		func(v *api.Verdict) { v.Sets[0].Type++ }, func(v *api.Verdict) { v.Sets[0].Class++ }, func(v *api.Verdict) { v.Soa = nil }, func(v *api.Verdict) { v.Sets = nil }, func(v *api.Verdict) { v.Sets = append(v.Sets, v.Soa...) },
	} {
		b := of(t, 2)
		cast(t, b, 0, 1, 1)
		v := said(1)
		change(&v)
		if e := b.Cast(tally.Vote{Up: 1, Verdict: v}); e != api.OK {
			t.Fatal(e)
		}
		if _, _, _, is := b.Won(); is || b.Most() != 1 {
			t.Error(i)
		}
	}
}

// cards are the ballots of the model, in their order; a pass has no verdict.
type card struct {
	up, n int
	time  uint32
}

func check(t *testing.T, b *tally.Box, l []card, want int) {
	t.Helper()
	count := map[int]int{}
	most, winner := 0, -1
	var by, against []int
	var time uint32
	var votes []card
	has := [api.MaxUps]bool{}
	for _, c := range l {
		has[c.up] = true
		if c.n < 0 {
			continue
		}
		votes = append(votes, c)
		count[c.n]++
		most = max(most, count[c.n])
		if winner < 0 && count[c.n] == want {
			winner = c.n
			time = c.time
			for _, x := range votes {
				if x.n == winner {
					by = append(by, x.up)
					time = min(time, x.time)
				}
			}
		}
	}
	for _, x := range votes {
		if winner >= 0 && x.n != winner {
			against = append(against, x.up)
		}
	}
	slices.Sort(by)
	slices.Sort(against)
	if winner >= 0 {
		won(t, b, winner, time, by, against)
	} else {
		notWon(t, b)
	}
	got := b.Votes()
	if b.Most() != most || len(got) != len(votes) {
		t.Fatal(b.Most(), most, len(got))
	}
	for i, x := range votes {
		if got[i].Up != x.up || got[i].Time != x.time || !same(got[i].Verdict, said(x.n)) {
			t.Fatal(got[i], x)
		}
	}
	for u := range has {
		if b.Has(u) != has[u] {
			t.Fatal(u)
		}
	}
}

// P21.2 to P21.6: any ballots.
func TestAny(t *testing.T) {
	r := rand.New(rand.NewSource(1))
	for range 2000 {
		want := 1 + r.Intn(6)
		b := of(t, want)
		var l []card
		for range 14 {
			if r.Intn(6) == 0 {
				old := b
				b = b.Copy()
				for u := range api.MaxUps {
					old.Cast(tally.Vote{Up: u, Verdict: said(7)})
				}
			}
			c := card{r.Intn(api.MaxUps), r.Intn(4) - 1, uint32(r.Intn(9))}
			there := slices.ContainsFunc(l, func(x card) bool { return x.up == c.up })
			var e api.Errno
			if c.n < 0 {
				e = b.Pass(c.up)
			} else {
				e = b.Cast(tally.Vote{Up: c.up, Verdict: said(c.n), Time: c.time})
			}
			if there != (e == api.ErrHave) || !there && e != api.OK {
				t.Fatal(c, e)
			}
			if !there {
				l = append(l, c)
			}
			check(t, b, l, want)
		}
	}
}

// P21.3: with more than half wanted, the order of ballots does not matter.
func TestUnique(t *testing.T) {
	r := rand.New(rand.NewSource(2))
	for range 1000 {
		n := 1 + 2*r.Intn(5)
		kinds := make([]int, n)
		for u := range kinds {
			kinds[u] = r.Intn(2)
		}
		first := -1
		for range 5 {
			b := of(t, n/2+1)
			for _, u := range r.Perm(n) {
				cast(t, b, u, kinds[u], 1)
			}
			v, _, by, is := b.Won()
			if !is || len(by) != n/2+1 {
				t.Fatal(kinds, by)
			}
			winner := 0
			if same(v, said(1)) {
				winner = 1
			}
			if first >= 0 && first != winner {
				t.Fatal(kinds)
			}
			first = winner
		}
	}
}

// P21.2: a copy and its box go on by themselves, in any order.
func TestCopy(t *testing.T) {
	for n := range 5 {
		b := of(t, 9)
		var l []card
		for u := range n {
			cast(t, b, u, u, 1)
			l = append(l, card{u, u, 1})
		}
		c := b.Copy()
		cast(t, c, 6, 6, 6)
		cast(t, b, 7, 7, 7)
		check(t, c, append(slices.Clone(l), card{6, 6, 6}), 9)
		check(t, b, append(slices.Clone(l), card{7, 7, 7}), 9)
		if e := c.Pass(8); e != api.OK || b.Has(8) {
			t.Error(e)
		}
	}
}

// R3: new memory.
func TestNewMemory(t *testing.T) {
	b := of(t, 2)
	v := said(1)
	b.Cast(tally.Vote{Up: 0, Verdict: v, Time: 4})
	v.Sets[0].Data[0] = "changed"
	b.Votes()[0].Verdict.Soa[0].Data[0] = "changed"
	cast(t, b, 1, 1, 5)
	won(t, b, 1, 4, []int{0, 1}, nil)
	got, _, by, _ := b.Won()
	got.Sets[0].Name, got.Sets[0].Data[0], by[0] = "changed", "changed", 9
	won(t, b, 1, 4, []int{0, 1}, nil)
}
