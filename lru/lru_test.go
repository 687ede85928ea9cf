package lru_test

import (
	"math/rand"
	"slices"
	"testing"

	"hustings/api"
	"hustings/lru"
)

func list(t *testing.T, n int) *lru.List {
	t.Helper()
	l, e := lru.New(n)
	if e != api.OK {
		t.Fatal(e)
	}
	return l
}

// P15.1, P15.2: the chapter's example.
func TestExample(t *testing.T) {
	l := list(t, 4)
	for _, at := range []int{2, 0, 2} {
		if e := l.Use(at); e != api.OK {
			t.Fatal(e)
		}
	}
	if row := l.Row(); !slices.Equal(row, []int{0, 2}) {
		t.Error(row)
	}
	if at, is := l.Oldest(); at != 0 || !is {
		t.Error(at, is)
	}
	if at, is := l.Newest(); at != 2 || !is {
		t.Error(at, is)
	}
	if !l.Drop(0) || !slices.Equal(l.Row(), []int{2}) || l.Drop(0) {
		t.Error(l.Row())
	}
	if e := l.Use(4); e != api.ErrArg {
		t.Error(e)
	}
}

// P15.1: what is refused, nil, and zero.
func TestEdges(t *testing.T) {
	for _, n := range []int{-1, api.MaxCache + 1, -1 << 63, 1<<63 - 1} {
		if l, e := lru.New(n); l != nil || e != api.ErrArg {
			t.Error(n, e)
		}
	}
	var none *lru.List
	if none.Use(0) != api.ErrNil || none.Use(-1) != api.ErrNil || none.Drop(0) || len(none.Row()) != 0 || none.Len() != 0 || none.Has(0) || none.Copy() != nil {
		t.Error("nil")
	}
	if at, is := none.Oldest(); at != 0 || is {
		t.Error(at, is)
	}
	if at, is := none.Newest(); at != 0 || is {
		t.Error(at, is)
	}
	for _, l := range []*lru.List{{}, list(t, 0), (&lru.List{}).Copy(), list(t, 3)} {
		at, is := l.Oldest()
		at2, is2 := l.Newest()
		if at != 0 || is || at2 != 0 || is2 || l.Len() != 0 || len(l.Row()) != 0 || l.Has(0) || l.Drop(0) {
			t.Error(at, is, at2, is2)
		}
		for _, n := range []int{-1, 3, 256, 257, -1 << 63, 1<<63 - 1} {
			if l.Use(n) != api.ErrArg || l.Drop(n) || l.Has(n) {
				t.Error(n)
			}
		}
	}
	var zero lru.List
	if zero.Use(0) != api.ErrArg {
		t.Error("a zero list has a slot")
	}
	l := list(t, api.MaxCache)
	for at := range api.MaxCache {
		if e := l.Use(api.MaxCache - 1 - at); e != api.OK {
			t.Fatal(e)
		}
	}
	if l.Len() != api.MaxCache || l.Row()[0] != api.MaxCache-1 || l.Use(api.MaxCache) != api.ErrArg {
		t.Error(l.Len())
	}
}

func check(t *testing.T, l *lru.List, m []int, n int) {
	t.Helper()
	if row := l.Row(); !slices.Equal(row, m) || l.Len() != len(m) {
		t.Fatal(row, m)
	}
	for at := -1; at <= n; at++ {
		if l.Has(at) != slices.Contains(m, at) {
			t.Fatal(at, m)
		}
	}
	old, is := l.Oldest()
	young, is2 := l.Newest()
	if is != (len(m) > 0) || is2 != is || is && (old != m[0] || young != m[len(m)-1]) || !is && (old != 0 || young != 0) {
		t.Fatal(old, young, is, m)
	}
}

func without(m []int, at int) []int {
	return slices.DeleteFunc(slices.Clone(m), func(x int) bool { return x == at })
}

// P15.2 to P15.6: any calls.
func TestAny(t *testing.T) {
	r := rand.New(rand.NewSource(1))
	for range 300 {
		n := 1 + r.Intn(8)
		l, m := list(t, n), []int{}
		for range 60 {
			at := r.Intn(n)
			switch r.Intn(4) {
			case 0:
				if l.Drop(at) != slices.Contains(m, at) {
					t.Fatal(at, m)
				}
				m = without(m, at)
				if l.Drop(at) {
					t.Fatal(at, m)
				}
			case 1:
				old := l
				l = l.Copy()
				old.Use(at)
				check(t, l, m, n)
				keep := old.Row()
				l.Drop(at)
				l.Use(at)
				m = append(without(m, at), at)
				check(t, old, keep, n)
			default:
				if e := l.Use(at); e != api.OK {
					t.Fatal(e)
				}
				m = append(without(m, at), at)
			}
			check(t, l, m, n)
			for at := range n {
				if !slices.Contains(m, at) {
					l.Use(at)
					if !l.Drop(at) {
						t.Fatal(at, m)
					}
					check(t, l, m, n)
				}
			}
		}
	}
}

// R3: a row is the caller's own.
func TestRow(t *testing.T) {
	l := list(t, 2)
	l.Use(0)
	l.Use(1)
	l.Row()[0] = 9
	check(t, l, []int{0, 1}, 2)
}
