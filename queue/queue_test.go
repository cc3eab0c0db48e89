package queue_test

import (
	"math/rand"
	"slices"
	"testing"

	"trammel/queue"
)

func TestEmpty(t *testing.T) {
	q := queue.Queue[string]{}
	front, some := q.Front()
	taken, more := q.Take()
	if q.Many() != 0 || front != "" || some || taken != "" || more || len(q.Rest()) != 0 {
		t.Errorf("%d, %q %v, %q %v, %q", q.Many(), front, some, taken, more, q.Rest())
	}
	q.Add()
	if q.Many() != 0 {
		t.Errorf("%d behind nothing was added", q.Many())
	}
}

// TestFirstInFirstOut: what is added at the end and taken at the front is a list's.
func TestFirstInFirstOut(t *testing.T) {
	r := rand.New(rand.NewSource(1))
	q, list := queue.Queue[int]{}, []int{}
	for n := range 2000 {
		if r.Intn(2) == 0 {
			more := []int{n, -n, 7}[:r.Intn(4)]
			q.Add(more...)
			list = append(list, more...)
		} else {
			front, isFront := q.Front()
			taken, isTaken := q.Take()
			some := len(list) > 0
			if isFront != some || isTaken != some || some && (front != list[0] || taken != list[0]) {
				t.Errorf("%d %v, %d %v of %v", front, isFront, taken, isTaken, list)
			}
			list = list[min(1, len(list)):]
		}
		if q.Many() != len(list) || !slices.Equal(q.Rest(), list) {
			t.Errorf("%d: %v instead of %v", q.Many(), q.Rest(), list)
		}
	}
}

// TestListsAreItsOwn: neither what was added nor what is told shares its memory.
func TestListsAreItsOwn(t *testing.T) {
	q, more := queue.Queue[int]{}, []int{1, 2, 3}
	q.Add(more...)
	more[0] = 9
	rest := q.Rest()
	rest[1] = 9
	rest = append(rest[:2], 9)
	if !slices.Equal(q.Rest(), []int{1, 2, 3}) || len(rest) != 3 {
		t.Errorf("%v", q.Rest())
	}
}
