package grid

// heap gives back what is put into it, first what comes before all the rest.
type heap[T any] struct {
	before func(a, b T) bool
	items  []T
}

func (h *heap[T]) push(item T) {
	h.items = append(h.items, item)
	at := len(h.items) - 1
	for at > 0 {
		parent := (at - 1) / 2
		if !h.before(h.items[at], h.items[parent]) {
			return
		}
		h.swap(at, parent)
		at = parent
	}
}

// pop takes the first item out of a heap that is not empty.
func (h *heap[T]) pop() T {
	last := len(h.items) - 1
	h.swap(0, last)
	item := h.items[last]
	h.items = h.items[:last]
	h.sink()
	return item
}

// sink moves the item at the top down to where none below it comes before it.
func (h *heap[T]) sink() {
	at := 0
	for {
		first := at
		for child := 2*at + 1; child <= 2*at+2 && child < len(h.items); child++ {
			if h.before(h.items[child], h.items[first]) {
				first = child
			}
		}
		if first == at {
			return
		}
		h.swap(at, first)
		at = first
	}
}

func (h *heap[T]) swap(a, b int) {
	h.items[a], h.items[b] = h.items[b], h.items[a]
}
