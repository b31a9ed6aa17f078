package spread_test

import (
	"math/bits"
	"math/rand/v2"
	"slices"

	"tidewall/api"
	"tidewall/spread"
)

// reached are the least times of nodes, by definition: what a link gives counts until no time gets less. A delay of api.Never is that of a link that does not count.
func reached(n spread.Net, node, begin int, delay func(spread.Link) int) []int {
	times := slices.Repeat([]int{api.Never}, n.Nodes)
	times[node] = begin
	for hasChanged := true; hasChanged; {
		hasChanged = false
		for _, l := range n.Links {
			if d := delay(l); d != api.Never && times[l.From] != api.Never && times[l.From]+d < times[l.To] {
				times[l.To] = times[l.From] + d
				hasChanged = true
			}
		}
	}
	return times
}

// bounds are those of the times, by definition.
func bounds(n spread.Net, s spread.Start, failed, doubtful []int) []api.Span {
	lo := reached(n, s.Node, s.Time.Lo, func(l spread.Link) int {
		if slices.Contains(failed, l.Unit) {
			return api.Never
		}
		return l.Delay.Lo
	})
	hi := reached(n, s.Node, s.Time.Hi, func(l spread.Link) int {
		if !l.Sure || slices.Contains(failed, l.Unit) || slices.Contains(doubtful, l.Unit) {
			return api.Never
		}
		return l.Delay.Hi
	})
	var spans []api.Span
	for node := range lo {
		spans = append(spans, sp(lo[node], hi[node]))
	}
	return spans
}

// unitsOf are the units with a state.
func unitsOf(states []int, state int) []int {
	var units []int
	for unit, x := range states {
		if x == state {
			units = append(units, unit)
		}
	}
	return units
}

// subsets are all sets of at most so many units, in the order of sets.
func subsets(units []int, most int) [][]int {
	var l [][]int
	for mask := range 1 << len(units) {
		if bits.OnesCount(uint(mask)) > most {
			continue
		}
		var chosen []int
		for i, unit := range units {
			if mask>>i&1 == 1 {
				chosen = append(chosen, unit)
			}
		}
		l = append(l, chosen)
	}
	slices.SortFunc(l, func(a, b []int) int {
		if len(a) != len(b) {
			return len(a) - len(b)
		}
		return slices.Compare(a, b)
	})
	return l
}

// boundsWith are the bounds when the units that are Failed, and some others, have failed, and those that are Doubtful are doubtful.
func boundsWith(n spread.Net, s spread.Start, states, others []int) []api.Span {
	return bounds(n, s, slices.Concat(unitsOf(states, spread.Failed), others), unitsOf(states, spread.Doubtful))
}

// worst are the bounds with states, by definition.
func worst(n spread.Net, s spread.Start, states []int, f int) []api.Span {
	spans := boundsWith(n, s, states, nil)
	for _, others := range subsets(unitsOf(states, spread.Fine), f) {
		for node, x := range boundsWith(n, s, states, others) {
			spans[node].Hi = max(spans[node].Hi, x.Hi)
		}
	}
	return spans
}

// blame is the first set with which a due is not met, by definition.
func blame(n spread.Net, s spread.Start, states []int, f int, d spread.Due) ([]int, bool) {
	for _, others := range subsets(unitsOf(states, spread.Fine), f) {
		if boundsWith(n, s, states, others)[d.Node].Hi > d.By {
			return others, true
		}
	}
	return nil, false
}

// strong is how many units can fail, by definition.
func strong(n spread.Net, s spread.Start, states []int, d spread.Due) int {
	most := -1
	for f := range 4 {
		if worst(n, s, states, f)[d.Node].Hi <= d.By {
			most = f
		}
	}
	return most
}

// needed are the units on which a due depends, by definition.
func needed(n spread.Net, s spread.Start, states []int, d spread.Due) []int {
	var l []int
	for _, unit := range unitsOf(states, spread.Fine) {
		if boundsWith(n, s, states, []int{unit})[d.Node].Hi > d.By {
			l = append(l, unit)
		}
	}
	return l
}

// statesBy are the states of units, by definition.
func statesBy(units int, l []spread.Test, now, age int) []int {
	states := make([]int, units)
	for unit := range states {
		var last []spread.Test
		for _, x := range l {
			if x.Unit == unit && x.Time <= now {
				last = append(last, x)
			}
		}
		slices.SortStableFunc(last, func(a, b spread.Test) int { return a.Time - b.Time })
		states[unit] = spread.Doubtful
		if len(last) == 0 {
			continue
		}
		if x := last[len(last)-1]; !x.Good {
			states[unit] = spread.Failed
		} else if now-x.Time <= age {
			states[unit] = spread.Fine
		}
	}
	return states
}

// receiptOf is the time of the receipt of a node, and whether there is one.
func receiptOf(l []spread.Receipt, node int) (int, bool) {
	for _, x := range l {
		if x.Node == node {
			return x.Time, true
		}
	}
	return 0, false
}

// isBroken says by definition whether a sure link did not pass the warning on in time.
func isBroken(s spread.Start, x spread.Link, l []spread.Receipt, until int) bool {
	t, isSent := receiptOf(l, x.From)
	got, isGot := receiptOf(l, x.To)
	if !x.Sure || x.To == s.Node || !isSent {
		return false
	}
	if !isGot {
		return t+x.Delay.Hi <= until
	}
	return got > t+x.Delay.Hi
}

// bringers are the units (-1 for none) of the links that can have brought a receipt, by definition.
func bringers(n spread.Net, l []spread.Receipt, r spread.Receipt, failed []int) []int {
	var units []int
	for _, x := range n.Links {
		t, isSent := receiptOf(l, x.From)
		if x.To == r.Node && isSent && r.Time >= t+x.Delay.Lo && r.Time <= t+x.Delay.Hi && !slices.Contains(failed, x.Unit) {
			units = append(units, x.Unit)
		}
	}
	slices.Sort(units)
	return slices.Compact(units)
}

// diagnose is what receipts without an error say of units, by definition.
func diagnose(n spread.Net, s spread.Start, l []spread.Receipt, until int) (worked, failed []int, e api.Errno) {
	isWrong := false
	for _, x := range n.Links {
		if isBroken(s, x, l, until) {
			failed = append(failed, x.Unit)
			isWrong = isWrong || x.Unit == -1
		}
	}
	for _, r := range l {
		if r.Node == s.Node {
			isWrong = isWrong || r.Time < s.Time.Lo || r.Time > s.Time.Hi
			continue
		}
		units := bringers(n, l, r, failed)
		isWrong = isWrong || len(units) == 0
		if len(units) == 1 && units[0] >= 0 {
			worked = append(worked, units[0])
		}
	}
	if isWrong {
		return nil, nil, api.ErrConflict
	}
	slices.Sort(worked)
	slices.Sort(failed)
	return slices.Compact(worked), slices.Compact(failed), api.OK
}

// randomSpan is a random span within another one, often with an end of it, and often a point.
func randomSpan(r *rand.Rand, s api.Span) api.Span {
	lo := s.Lo + r.IntN(s.Hi-s.Lo+1)
	if r.IntN(4) == 0 {
		lo = s.Lo
	}
	hi := lo + r.IntN(s.Hi-lo+1)
	switch r.IntN(4) {
	case 0:
		hi = s.Hi
	case 1:
		hi = lo
	}
	return sp(lo, hi)
}

// randomLink is a link in a network with more than one node.
func randomLink(r *rand.Rand, nodes, units, delay int) spread.Link {
	from := r.IntN(nodes)
	to := (from + 1 + r.IntN(nodes-1)) % nodes
	return spread.Link{From: from, To: to, Delay: randomSpan(r, sp(0, delay)), Unit: r.IntN(units+1) - 1, Sure: r.IntN(4) > 0}
}

// randomNet has up to so many nodes, units and links, with delays up to a number.
func randomNet(r *rand.Rand, nodes, units, links, delay int) spread.Net {
	n := network(1+r.IntN(nodes), r.IntN(units+1))
	if n.Nodes == 1 {
		return n
	}
	for range r.IntN(links + 1) {
		n.Links = append(n.Links, randomLink(r, n.Nodes, n.Units, delay))
	}
	return n
}

func randomStart(r *rand.Rand, n spread.Net, time int) spread.Start {
	return start(r.IntN(n.Nodes), randomSpan(r, sp(0, time)))
}

// randomStates are mostly fine.
func randomStates(r *rand.Rand, units int) []int {
	states := fine(units)
	for i := range states {
		if r.IntN(3) == 0 {
			states[i] = 1 + r.IntN(3)
		}
	}
	return states
}

// randomUnits are some units of a network, some of them twice.
func randomUnits(r *rand.Rand, n spread.Net) []int {
	var l []int
	for range r.IntN(4) {
		if n.Units > 0 {
			l = append(l, r.IntN(n.Units))
		}
	}
	return l
}
