package well

// queue is what waits, the first one that came ahead of all others.
type queue[T any] struct {
	waiting []T
}

func (q *queue[T]) add(x T) { q.waiting = append(q.waiting, x) }

// next takes the first one out; false, if nothing waits.
func (q *queue[T]) next() (x T, ok bool) {
	if len(q.waiting) == 0 {
		return x, false
	}
	x, q.waiting = q.waiting[0], q.waiting[1:]
	return x, true
}
