package grid

import "tidewall/api"

// visit is a cell to which a way leads, and the value of this way.
type visit[T any] struct {
	cell  int
	value T
}

// best returns, for each cell of a valid grid, the value that comes before those of all other ways to it from the starts.
// A way that is only its start has the value that first gives; next gives the value of a way that goes on to a neighbor.
// A value that next gives must not come before the one from which it is made: else a way could go round and round.
func best[T any](g api.Grid, starts []int, first func(cell int) T, next func(value T, cell int) T, before func(a, b T) bool) []T {
	values := make([]T, len(g.Ground))
	reached := make([]bool, len(g.Ground))
	queue := heap[visit[T]]{before: func(a, b visit[T]) bool { return before(a.value, b.value) }}
	reach := func(cell int, value T) {
		if !reached[cell] || before(value, values[cell]) {
			reached[cell], values[cell] = true, value
			queue.push(visit[T]{cell, value})
		}
	}
	for _, cell := range starts {
		reach(cell, first(cell))
	}
	for len(queue.items) > 0 {
		v := queue.pop()
		for cell := range neighbors(g, v.cell) {
			reach(cell, next(v.value, cell))
		}
	}
	return values
}

// join makes spans of their lower and their upper ends.
func join(lower, upper []int) []api.Span {
	spans := make([]api.Span, len(lower))
	for i := range spans {
		spans[i] = api.Span{Lo: lower[i], Hi: upper[i]}
	}
	return spans
}
