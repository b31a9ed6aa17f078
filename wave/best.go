package wave

import (
	"container/heap"
	"iter"
	"slices"
)

// best returns for each cell the best value of all ways to it, from those with which ways begin: none where no way leads.
// Every other value is better than none. A step must not give a better value than the one from which it is made: else a way could go round and round.
func best[V any](first []V, none V, better func(a, b V) bool, near func(cell int) iter.Seq[int], step func(from, to int, value V) V) []V {
	values := slices.Clone(first)
	open := &queue[V]{better: better}
	for cell, value := range first {
		if better(value, none) {
			heap.Push(open, visit[V]{cell, value})
		}
	}
	for open.Len() > 0 {
		v := heap.Pop(open).(visit[V])
		if better(values[v.cell], v.value) {
			continue
		}
		for to := range near(v.cell) {
			value := step(v.cell, to, v.value)
			if better(value, values[to]) {
				values[to] = value
				heap.Push(open, visit[V]{to, value})
			}
		}
	}
	return values
}

// visit is a cell to which a way leads, and the value of this way.
type visit[V any] struct {
	cell  int
	value V
}

// queue has the methods with which package heap takes the best visit out of it first.
type queue[V any] struct {
	better func(a, b V) bool
	visits []visit[V]
}

func (q *queue[V]) Len() int { return len(q.visits) }

func (q *queue[V]) Less(a, b int) bool { return q.better(q.visits[a].value, q.visits[b].value) }

func (q *queue[V]) Swap(a, b int) { q.visits[a], q.visits[b] = q.visits[b], q.visits[a] }

func (q *queue[V]) Push(v any) { q.visits = append(q.visits, v.(visit[V])) }

func (q *queue[V]) Pop() any {
	last := len(q.visits) - 1
	v := q.visits[last]
	q.visits = q.visits[:last]
	return v
}
