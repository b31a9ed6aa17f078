package spread

// queue is a heap that gives back what is put into it, first what comes before all the rest.
type queue[T any] struct {
	before func(a, b T) bool
	items  []T
}

func (q *queue[T]) isEmpty() bool {
	return len(q.items) == 0
}

func (q *queue[T]) put(item T) {
	at := len(q.items)
	q.items = append(q.items, item)
	for parent := (at - 1) / 2; at > 0 && q.before(item, q.items[parent]); parent = (at - 1) / 2 {
		q.items[at] = q.items[parent]
		at = parent
	}
	q.items[at] = item
}

// take takes the first item out of a queue that is not empty.
func (q *queue[T]) take() T {
	first, last := q.items[0], len(q.items)-1
	item := q.items[last]
	q.items = q.items[:last]
	if last > 0 {
		q.settle(item)
	}
	return first
}

// settle puts an item into the place of the first one: below all that come before it.
func (q *queue[T]) settle(item T) {
	at := 0
	for child := 1; child < len(q.items); child = 2*at + 1 {
		if right := child + 1; right < len(q.items) && q.before(q.items[right], q.items[child]) {
			child = right
		}
		if !q.before(q.items[child], item) {
			break
		}
		q.items[at] = q.items[child]
		at = child
	}
	q.items[at] = item
}
