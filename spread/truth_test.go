package spread_test

import (
	"math/rand/v2"
	"slices"
	"testing"

	"tidewall/api"
	"tidewall/spread"
)

// truth is what happens: which units have failed, when the warning begins, and what each link does.
type truth struct {
	begin  int
	failed []int
	delays map[int]int // of the links that pass the warning on, by their numbers
}

// randomTruth is one in which certain units have failed.
func randomTruth(r *rand.Rand, n spread.Net, s spread.Start, failed []int) truth {
	u := truth{begin: randomSpan(r, s.Time).Lo, failed: failed, delays: map[int]int{}}
	for i, l := range n.Links {
		if !slices.Contains(failed, l.Unit) && (l.Sure || r.IntN(2) == 0) {
			u.delays[i] = randomSpan(r, l.Delay).Lo
		}
	}
	return u
}

// times are those of the nodes: what is under way comes to them in the order of time.
func (u truth) times(n spread.Net, s spread.Start) []int {
	times := slices.Repeat([]int{api.Never}, n.Nodes)
	type message struct{ node, time int }
	under := []message{{s.Node, u.begin}}
	for len(under) > 0 {
		next := 0
		for i, m := range under {
			if m.time < under[next].time {
				next = i
			}
		}
		m := under[next]
		under = slices.Delete(under, next, next+1)
		if times[m.node] != api.Never {
			continue
		}
		times[m.node] = m.time
		for i, l := range n.Links {
			if delay, isOpen := u.delays[i]; isOpen && l.From == m.node {
				under = append(under, message{l.To, m.time + delay})
			}
		}
	}
	return times
}

// failures are units that can have failed, as states and a number allow.
func failures(r *rand.Rand, states []int, f int) []int {
	failed := unitsOf(states, spread.Failed)
	for _, unit := range unitsOf(states, spread.Doubtful) {
		if r.IntN(2) == 0 {
			failed = append(failed, unit)
		}
	}
	others := unitsOf(states, spread.Fine)
	r.Shuffle(len(others), func(i, j int) { others[i], others[j] = others[j], others[i] })
	return append(failed, others[:r.IntN(min(f, len(others))+1)]...)
}

// P8.7, G2: the time of each node lies within the bounds with states, whatever happens; and so dues that are met are met.
func TestTruthIsWithinBounds(t *testing.T) {
	r := dice(20)
	counts := map[string]int{}
	for k := range 10000 {
		n := randomNet(r, 6, 5, 14, 9)
		s := randomStart(r, n, 20)
		states, f := randomStates(r, n.Units), r.IntN(4)
		l, e := spread.Worst(n, s, states, f)
		if e != api.OK {
			t.Fatal(k, e)
		}
		for range 5 {
			times := randomTruth(r, n, s, failures(r, states, f)).times(n, s)
			for node, time := range times {
				if time < l[node].Lo || time > l[node].Hi {
					t.Error(k, n, s, states, f, times, l)
				}
				if time == api.Never {
					counts["not reached"]++
				} else if l[node].Hi == api.Never {
					counts["perhaps"]++
				} else {
					counts["for sure"]++
				}
				d := spread.Due{Node: node, By: r.IntN(50)}
				met, e := spread.Meets(n, s, states, f, []spread.Due{d})
				if e != api.OK || met[0] && time > d.By {
					t.Error(k, n, s, states, f, times, d)
				}
			}
		}
	}
	if counts["not reached"] < 1000 || counts["perhaps"] < 1000 || counts["for sure"] < 1000 {
		t.Error("few cases:", counts)
	}
}

// P8.7: what Reach says lies around the truth too, with units that have failed and doubtful ones.
func TestTruthIsWithinReach(t *testing.T) {
	r := dice(21)
	for k := range 5000 {
		n := randomNet(r, 6, 5, 14, 9)
		s := randomStart(r, n, 20)
		failed, doubtful := randomUnits(r, n), randomUnits(r, n)
		l, e := spread.Reach(n, s, failed, doubtful)
		if e != api.OK {
			t.Fatal(k, e)
		}
		for range 5 {
			down := slices.Clone(failed)
			for _, unit := range doubtful {
				if r.IntN(2) == 0 {
					down = append(down, unit)
				}
			}
			times := randomTruth(r, n, s, down).times(n, s)
			for node, time := range times {
				if time < l[node].Lo || time > l[node].Hi {
					t.Error(k, n, s, failed, doubtful, down, times, l)
				}
			}
		}
	}
}

// P8.7: each end of a bound is the time of a node in some truth: no bound is wider than it has to be.
func TestBoundsAreReached(t *testing.T) {
	r := dice(22)
	for k := range 3000 {
		n := randomNet(r, 6, 5, 14, 9)
		s := randomStart(r, n, 20)
		states, f := randomStates(r, n.Units), r.IntN(4)
		l, _ := spread.Worst(n, s, states, f)
		best := truth{begin: s.Time.Lo, failed: unitsOf(states, spread.Failed), delays: map[int]int{}}
		for i, x := range n.Links {
			if !slices.Contains(best.failed, x.Unit) {
				best.delays[i] = x.Delay.Lo
			}
		}
		least, greatest := best.times(n, s), make([]int, n.Nodes)
		for _, others := range subsets(unitsOf(states, spread.Fine), f) {
			bad := truth{begin: s.Time.Hi, delays: map[int]int{}}
			down := slices.Concat(best.failed, unitsOf(states, spread.Doubtful), others)
			for i, x := range n.Links {
				if x.Sure && !slices.Contains(down, x.Unit) {
					bad.delays[i] = x.Delay.Hi
				}
			}
			for node, time := range bad.times(n, s) {
				greatest[node] = max(greatest[node], time)
			}
		}
		for node, x := range l {
			if x != sp(least[node], greatest[node]) {
				t.Error(k, n, s, states, f, l, least, greatest)
			}
		}
	}
}

// P8.10, G2: what is found out of a run that happens in truth is true.
func TestRunsInTruth(t *testing.T) {
	r := dice(23)
	counts := map[string]int{}
	for k := range 20000 {
		n := randomNet(r, 6, 5, 14, []int{2, 6, 50}[k%3])
		s := randomStart(r, n, 20)
		var failed []int
		for unit := range n.Units {
			if r.IntN(3) == 0 {
				failed = append(failed, unit)
			}
		}
		u := randomTruth(r, n, s, failed)
		times := u.times(n, s)
		for _, until := range []int{u.begin, u.begin + r.IntN(10), u.begin + r.IntN(100), 1000000000} {
			var l []spread.Receipt
			for _, node := range r.Perm(n.Nodes) {
				if times[node] <= until {
					l = append(l, spread.Receipt{Node: node, Time: times[node]})
				}
			}
			up, down, e := spread.Diagnose(n, s, l, until)
			if e != api.OK {
				t.Error(k, n, s, l, until, e)
			}
			for _, unit := range up {
				if slices.Contains(failed, unit) {
					t.Error(k, "failed, and worked for sure:", n, s, l, until, unit)
				}
			}
			for _, unit := range down {
				if !slices.Contains(failed, unit) {
					t.Error(k, "worked, and failed for sure:", n, s, l, until, unit)
				}
			}
			counts["worked"] += len(up)
			counts["failed"] += len(down)
		}
	}
	if counts["worked"] < 1000 || counts["failed"] < 1000 {
		t.Error("few cases:", counts)
	}
}
