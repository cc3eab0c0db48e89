// Package queue is no layer, but what split and crew share: a list that grows at its end, and whose front is taken away.
package queue

import "slices"

// Queue is such a list; its zero value is an empty one.
type Queue[T any] struct {
	list []T
}

// Many is how many are left.
func (q *Queue[T]) Many() int {
	return len(q.list)
}

// Add adds some at the end. The list that they stand in is not kept.
func (q *Queue[T]) Add(more ...T) {
	q.list = append(q.list, more...)
}

// Front is the first one; the zero value and false, if none is left.
func (q *Queue[T]) Front() (T, bool) {
	if len(q.list) == 0 {
		var none T
		return none, false
	}
	return q.list[0], true
}

// Take takes the front away; the zero value and false, if none is left.
func (q *Queue[T]) Take() (T, bool) {
	front, some := q.Front()
	if some {
		q.list = q.list[1:]
	}
	return front, some
}

// Rest is all that is left, in order.
func (q *Queue[T]) Rest() []T {
	return slices.Clone(q.list)
}
