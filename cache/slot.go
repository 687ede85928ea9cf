package cache

import (
	"slices"

	"hustings/api"
	"hustings/name"
	"hustings/sip"
)

// folded returns the one question that stands for all that are the same. (It has no name if that is none.)
func folded(q api.Question) api.Question {
	q.Name = name.Fold(q.Name)
	return q
}

func (c *Cache) hash(q api.Question) uint64 {
	tail := []byte{byte(q.Type >> 8), byte(q.Type), byte(q.Class >> 8), byte(q.Class)}
	return sip.Sum(c.k0, c.k1, q.Name+string(tail))
}

// slot returns where the verdict for a question is.
func (c *Cache) slot(q api.Question) (int, bool) {
	for _, at := range c.slots[c.hash(q)] {
		if c.entries[at].question == q {
			return at, true
		}
	}
	return 0, false
}

// place returns a free slot, and makes it that of a question; if none is free the least recently used one is freed.
func (c *Cache) place(q api.Question) int {
	if c.order.Len() == len(c.entries) {
		oldest, _ := c.order.Oldest()
		c.remove(oldest)
	}
	at := 0
	for c.order.Has(at) {
		at++
	}
	hash := c.hash(q)
	c.slots[hash] = append(c.slots[hash], at)
	return at
}

func (c *Cache) remove(at int) {
	hash := c.hash(c.entries[at].question)
	rest := slices.DeleteFunc(c.slots[hash], func(x int) bool { return x == at })
	if len(rest) == 0 {
		delete(c.slots, hash)
	} else {
		c.slots[hash] = rest
	}
	c.entries[at] = entry{}
	c.order.Drop(at)
	c.timers.Drop(at)
}

// advance goes to a tick, and removes what lasts no longer.
func (c *Cache) advance(now int64) int {
	c.now = max(c.now, min(now, api.MaxTicks))
	due := c.timers.Due(c.now)
	for _, at := range due {
		c.remove(at)
	}
	return len(due)
}
