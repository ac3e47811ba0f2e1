package readout

import (
	"iter"
	"slices"
)

// queue has elements in the order in which they were added.
type queue[T any] struct{ items []T }

func (q *queue[T]) size() int {
	return len(q.items)
}

func (q *queue[T]) add(x T) {
	q.items = append(q.items, x)
}

// first returns the first element; there must be one.
func (q *queue[T]) first() T {
	return q.items[0]
}

// all yields the elements from the first one on, each with its place.
func (q *queue[T]) all() iter.Seq2[int, T] {
	return func(yield func(int, T) bool) {
		for i, x := range q.items {
			if !yield(i, x) {
				return
			}
		}
	}
}

// cut removes the element at a place, and returns it.
func (q *queue[T]) cut(place int) T {
	x := q.items[place]
	q.items = slices.Delete(q.items, place, place+1)
	return x
}
