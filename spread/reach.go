package spread

import (
	"slices"

	"tidewall/api"
)

// Reach returns when nodes are reached.
func Reach(n Net, s Start, failed, doubtful []int) ([]api.Span, api.Errno) {
	if e := checkBegin(n, s); e != api.OK {
		return nil, e
	}
	if !areUnits(n, failed) || !areUnits(n, doubtful) {
		return nil, api.ErrNone
	}
	c := courseOf(n, s)
	out := setOf(failed...)
	return join(c.earliest(out), c.latest(out.and(setOf(doubtful...)))), api.OK
}

func areUnits(n Net, l []int) bool {
	for _, unit := range l {
		if !hasUnit(n, unit) {
			return false
		}
	}
	return true
}

// course is how a warning goes through a network from its start.
type course struct {
	Start
	nodes int
	from  map[int][]Link // by the nodes from which they lead
}

func courseOf(n Net, s Start) course {
	return course{s, n.Nodes, linksBy(n, func(l Link) int { return l.From })}
}

// linksBy returns the links of a network by one of their nodes.
func linksBy(n Net, node func(l Link) int) map[int][]Link {
	links := map[int][]Link{}
	for _, l := range n.Links {
		links[node(l)] = append(links[node(l)], l)
	}
	return links
}

// earliest returns the least times at which nodes can be reached when units have failed.
func (c course) earliest(failed set) []int {
	return c.times(c.Time.Lo, func(l Link) int {
		if failed.has(l.Unit) {
			return api.Never
		}
		return l.Delay.Lo
	})
}

// latest returns by when nodes are reached for sure when units have failed, or perhaps have.
func (c course) latest(down set) []int {
	return c.times(c.Time.Hi, func(l Link) int {
		if !l.Sure || down.has(l.Unit) {
			return api.Never
		}
		return l.Delay.Hi
	})
}

// visit is a node with a time at which it is reached on some way.
type visit struct {
	node int
	time int
}

// times returns the least time at which each node is reached from a beginning at the start, over links with delays: api.Never for one that passes nothing on.
func (c course) times(begin int, delay func(l Link) int) []int {
	times := slices.Repeat([]int{api.Never}, c.nodes)
	open := queue[visit]{before: func(a, b visit) bool { return a.time < b.time }}
	reach := func(node, time int) {
		if time < times[node] {
			times[node] = time
			open.put(visit{node, time})
		}
	}
	reach(c.Node, begin)
	for !open.isEmpty() {
		v := open.take()
		if v.time > times[v.node] {
			continue
		}
		for _, l := range c.from[v.node] {
			reach(l.To, v.time+delay(l))
		}
	}
	return times
}

// join makes spans of their lower and their upper ends.
func join(lower, upper []int) []api.Span {
	spans := make([]api.Span, len(lower))
	for i := range spans {
		spans[i] = api.Span{Lo: lower[i], Hi: upper[i]}
	}
	return spans
}
