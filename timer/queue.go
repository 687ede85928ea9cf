package timer

// A timed thing is due at some tick, and comes before others or after them.
type timed interface {
	due() (id int, at int64)
	put() uint64
	before(x timed) bool
	moved(place int)
}

// An item knows its place in the queue, so that it can be removed from there.
type item struct {
	id    int
	at    int64
	turn  uint64 // greater for what was put later
	place int
}

func (x *item) due() (int, int64) { return x.id, x.at }

func (x *item) put() uint64 { return x.turn }

func (x *item) before(y timed) bool {
	_, at := y.due()
	if x.at != at {
		return x.at < at
	}
	return x.turn < y.put()
}

func (x *item) moved(place int) { x.place = place }

// A queue is a heap: none of its things comes before the first one.
type queue []timed

func (q queue) Len() int { return len(q) }

func (q queue) Less(i, j int) bool { return q[i].before(q[j]) }

func (q queue) Swap(i, j int) {
	q[i], q[j] = q[j], q[i]
	q[i].moved(i)
	q[j].moved(j)
}

// Push and Pop are what package heap calls.
func (q *queue) Push(x any) {
	t := x.(timed)
	t.moved(len(*q))
	*q = append(*q, t)
}

func (q *queue) Pop() any {
	last := len(*q) - 1
	x := (*q)[last]
	(*q)[last] = nil
	*q = (*q)[:last]
	return x
}
