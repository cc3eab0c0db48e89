package split

import "slices"

// queue is a list that grows at its end, and whose front is taken away.
type queue[T any] struct {
	list []T
}

func (q *queue[T]) many() int {
	return len(q.list)
}

func (q *queue[T]) add(x T) {
	q.list = append(q.list, x)
}

// front is the first one; false, if there is none.
func (q *queue[T]) front() (T, bool) {
	if len(q.list) == 0 {
		var none T
		return none, false
	}
	return q.list[0], true
}

// take takes the front away. There is one.
func (q *queue[T]) take() T {
	x := q.list[0]
	q.list = q.list[1:]
	return x
}

// rest is all that is left, in order.
func (q *queue[T]) rest() []T {
	return slices.Clone(q.list)
}
