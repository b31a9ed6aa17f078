package spread_test

import (
	"math"
	"math/rand/v2"
	"slices"
	"testing"

	"tidewall/api"
	"tidewall/spread"
)

// sp is a span, or, with one number, a point.
func sp(lo int, hi ...int) api.Span {
	if len(hi) == 0 {
		return api.Span{Lo: lo, Hi: lo}
	}
	return api.Span{Lo: lo, Hi: hi[0]}
}

func never() api.Span { return sp(api.Never) }

func dice(seed uint64) *rand.Rand { return rand.New(rand.NewPCG(seed, 8)) }

// sure is a link that is sure; perhaps is one that is not.
func sure(from, to int, delay api.Span, unit int) spread.Link {
	return spread.Link{From: from, To: to, Delay: delay, Unit: unit, Sure: true}
}

func perhaps(from, to int, delay api.Span, unit int) spread.Link {
	return spread.Link{From: from, To: to, Delay: delay, Unit: unit}
}

func network(nodes, units int, l ...spread.Link) spread.Net {
	return spread.Net{Nodes: nodes, Units: units, Links: l}
}

func start(node int, time api.Span) spread.Start {
	return spread.Start{Node: node, Time: time}
}

// exampleN is the network of the chapter's examples.
func exampleN() spread.Net {
	return network(4, 3, sure(0, 1, sp(10, 20), 0), sure(0, 2, sp(5, 50), 1), sure(1, 3, sp(10), 0), sure(2, 3, sp(0, 30), 2), perhaps(1, 2, sp(1, 5), -1))
}

func exampleS() spread.Start { return start(0, sp(100)) }

// fine are the states of units that are all fine.
func fine(units int) []int { return slices.Repeat([]int{spread.Fine}, units) }

// badNumbers are numbers that are not from least to greatest.
func badNumbers(least, greatest int) []int {
	return []int{least - 1, greatest + 1, math.MinInt, math.MaxInt}
}

// badTimes are spans that are not valid, or not within 0 to MaxTime.
func badTimes() []api.Span {
	return []api.Span{
		sp(1, 0), sp(1000000000, 999999999), sp(-1, 5), sp(-1), sp(5, 1000000001), sp(1000000001), never(), sp(0, api.Never),
		sp(math.MinInt, math.MaxInt), sp(math.MaxInt, math.MinInt), sp(math.MinInt), sp(math.MaxInt), sp(0, math.MaxInt), sp(math.MinInt, 0),
	}
}

func expectReach(t *testing.T, k any, n spread.Net, s spread.Start, failed, doubtful []int, want ...api.Span) {
	t.Helper()
	if l, e := spread.Reach(n, s, failed, doubtful); e != api.OK || !slices.Equal(l, want) {
		t.Error(k, "Reach", l, e, "want", want)
	}
}

func expectWorst(t *testing.T, k any, n spread.Net, s spread.Start, states []int, f int, want ...api.Span) {
	t.Helper()
	if l, e := spread.Worst(n, s, states, f); e != api.OK || !slices.Equal(l, want) {
		t.Error(k, "Worst", l, e, "want", want)
	}
}

func expectStates(t *testing.T, k any, n spread.Net, l []spread.Test, now, age int, want ...int) {
	t.Helper()
	if got, e := spread.States(n, l, now, age); e != api.OK || !slices.Equal(got, want) {
		t.Error(k, "States", got, e, "want", want)
	}
}

func expectBlame(t *testing.T, k any, n spread.Net, s spread.Start, states []int, f int, d spread.Due, isLate bool, want ...int) {
	t.Helper()
	if l, is, e := spread.Blame(n, s, states, f, d); e != api.OK || is != isLate || !slices.Equal(l, want) {
		t.Error(k, "Blame", l, is, e, "want", want, isLate)
	}
}

func expectMeets(t *testing.T, k any, n spread.Net, s spread.Start, states []int, f int, l []spread.Due, want ...bool) {
	t.Helper()
	if got, e := spread.Meets(n, s, states, f, l); e != api.OK || !slices.Equal(got, want) {
		t.Error(k, "Meets", got, e, "want", want)
	}
}

func expectStrong(t *testing.T, k any, n spread.Net, s spread.Start, states []int, d spread.Due, want int) {
	t.Helper()
	if f, e := spread.Strong(n, s, states, d); e != api.OK || f != want {
		t.Error(k, "Strong", f, e, "want", want)
	}
}

func expectNeeded(t *testing.T, k any, n spread.Net, s spread.Start, states []int, d spread.Due, want ...int) {
	t.Helper()
	if l, e := spread.Needed(n, s, states, d); e != api.OK || !slices.Equal(l, want) {
		t.Error(k, "Needed", l, e, "want", want)
	}
}

func expectRun(t *testing.T, k any, n spread.Net, s spread.Start, l []spread.Receipt, until int, worked, failed []int) {
	t.Helper()
	if up, down, e := spread.Diagnose(n, s, l, until); e != api.OK || !slices.Equal(up, worked) || !slices.Equal(down, failed) {
		t.Error(k, "Diagnose", up, down, e, "want", worked, failed)
	}
}

func expectConflict(t *testing.T, k any, n spread.Net, s spread.Start, l []spread.Receipt, until int) {
	t.Helper()
	if up, down, e := spread.Diagnose(n, s, l, until); e != api.ErrConflict || len(up) != 0 || len(down) != 0 {
		t.Error(k, "Diagnose", up, down, e, "want a conflict")
	}
}

// The examples of the chapter: times.
func TestTimesOfExample(t *testing.T) {
	n, s := exampleN(), exampleS()
	expectReach(t, "none", n, s, nil, nil, sp(100), sp(110, 120), sp(105, 150), sp(105, 130))
	expectReach(t, "failed", n, s, []int{0}, nil, sp(100), never(), sp(105, 150), sp(105, 180))
	expectReach(t, "doubtful", n, s, nil, []int{1}, sp(100), sp(110, 120), sp(105, api.Never), sp(105, 130))
	expectWorst(t, 0, n, s, fine(3), 0, sp(100), sp(110, 120), sp(105, 150), sp(105, 130))
	expectWorst(t, 1, n, s, fine(3), 1, sp(100), sp(110, api.Never), sp(105, api.Never), sp(105, 180))
	expectWorst(t, 2, n, s, fine(3), 2, sp(100), sp(110, api.Never), sp(105, api.Never), sp(105, api.Never))
}

// The examples of the chapter: dues.
func TestDuesOfExample(t *testing.T) {
	n, s := exampleN(), exampleS()
	by := func(time int) spread.Due { return spread.Due{Node: 3, By: time} }
	expectBlame(t, 0, n, s, fine(3), 1, by(150), true, 0)
	expectBlame(t, 1, n, s, fine(3), 1, by(180), false)
	expectBlame(t, 2, n, s, fine(3), 2, by(180), true, 0, 1)
	expectStrong(t, 0, n, s, fine(3), by(180), 1)
	expectStrong(t, 1, n, s, fine(3), by(150), 0)
	expectStrong(t, 2, n, s, fine(3), by(120), -1)
	expectNeeded(t, 0, n, s, fine(3), by(150), 0)
	expectNeeded(t, 1, n, s, fine(3), by(120), 0, 1, 2)
	l := []spread.Due{by(130), by(179), by(180), by(api.Never)}
	expectMeets(t, 0, n, s, fine(3), 0, l, true, true, true, true)
	expectMeets(t, 1, n, s, fine(3), 1, l, false, false, true, true)
	expectMeets(t, 2, n, s, fine(3), 2, l, false, false, false, true)
}

// The examples of the chapter: states and runs.
func TestRunsOfExample(t *testing.T) {
	n, s := exampleN(), exampleS()
	expectStates(t, 0, n, []spread.Test{{Unit: 0, Time: 50, Good: true}, {Unit: 1, Time: 90, Good: true}, {Unit: 1, Time: 95}}, 100, 40, 2, 3, 2)
	expectRun(t, 0, n, s, []spread.Receipt{{Node: 0, Time: 100}, {Node: 2, Time: 130}, {Node: 3, Time: 140}}, 200, []int{1, 2}, []int{0})
	expectRun(t, 1, n, s, []spread.Receipt{{Node: 0, Time: 100}}, 115, nil, nil)
	expectConflict(t, 2, n, s, []spread.Receipt{{Node: 0, Time: 100}, {Node: 3, Time: 101}}, 101)
}

// The numbers that the chapter names.
func TestConstants(t *testing.T) {
	got := []int{spread.MaxNodes, spread.MaxUnits, spread.MaxLinks, spread.MaxDown, spread.MaxTests, spread.MaxDues, spread.Fine, spread.Doubtful, spread.Failed}
	if !slices.Equal(got, []int{64, 20, 256, 3, 1024, 64, 1, 2, 3}) {
		t.Error(got)
	}
}

func expectCheck(t *testing.T, k any, n spread.Net, want api.Errno) {
	t.Helper()
	if e := spread.Check(n); e != want {
		t.Error(k, n, e, want)
	}
}

// P8.1: how many nodes, units and links there can be.
func TestSizesOfNets(t *testing.T) {
	for _, nodes := range []int{1, 2, 63, 64} {
		for _, units := range []int{0, 1, 19, 20} {
			expectCheck(t, "sizes", network(nodes, units), api.OK)
		}
	}
	for _, nodes := range badNumbers(1, 64) {
		expectCheck(t, "nodes", network(nodes, 3), api.ErrRange)
	}
	for _, units := range badNumbers(0, 20) {
		expectCheck(t, "units", network(3, units), api.ErrRange)
	}
	for _, links := range []int{0, 1, 255, 256, 257, 1000} {
		want := api.OK
		if links > 256 {
			want = api.ErrMany
		}
		l := slices.Repeat([]spread.Link{sure(0, 1, sp(5), -1)}, links)
		expectCheck(t, links, network(2, 0, l...), want)
		expectCheck(t, links, network(2, 21, l...), api.ErrRange)
		expectCheck(t, links, network(65, 0, l...), api.ErrRange)
	}
	// Too many links come before those that are wrong.
	expectCheck(t, "wrong", network(2, 0, make([]spread.Link, 257)...), api.ErrMany)
	expectCheck(t, "wrong", network(2, 0, make([]spread.Link, 256)...), api.ErrNone)
}

// badLinks are links that are wrong in a network of 4 nodes and 3 units, with their errors.
func badLinks() map[spread.Link]api.Errno {
	l := map[spread.Link]api.Errno{}
	for _, bad := range badNumbers(0, 3) {
		for _, delay := range []api.Span{sp(5), sp(1, 0)} {
			l[sure(bad, 1, delay, 0)] = api.ErrNone
			l[perhaps(1, bad, delay, -1)] = api.ErrNone
			l[sure(bad, bad, delay, 0)] = api.ErrNone
		}
	}
	for _, bad := range badNumbers(-1, 2) {
		for _, delay := range []api.Span{sp(5), sp(-1)} {
			l[sure(0, 1, delay, bad)] = api.ErrNone
			l[perhaps(1, 1, delay, bad)] = api.ErrNone
		}
	}
	for node := range 4 {
		l[sure(node, node, sp(5), node-1)] = api.ErrArg
		l[perhaps(node, node, sp(1, 0), -1)] = api.ErrArg
	}
	for _, bad := range badTimes() {
		l[sure(0, 1, bad, 0)] = api.ErrRange
		l[perhaps(3, 2, bad, -1)] = api.ErrRange
	}
	return l
}

// P8.1, R1: links that are wrong: the first one decides, and of its errors the one named first.
func TestWrongLinks(t *testing.T) {
	all := badLinks()
	for bad, want := range all {
		expectCheck(t, "alone", network(4, 3, bad), want)
		expectCheck(t, "last", network(4, 3, append(exampleN().Links, bad)...), want)
		expectCheck(t, "first", network(4, 3, append([]spread.Link{bad}, exampleN().Links...)...), want)
		for other := range all {
			expectCheck(t, "two", network(4, 3, exampleN().Links[0], bad, exampleN().Links[1], other), want)
		}
	}
	if len(all) < 40 {
		t.Error("few cases:", len(all))
	}
}

// P8.1: links at the ends of what is allowed, and several ones between the same nodes.
func TestRightLinks(t *testing.T) {
	for _, delay := range []api.Span{sp(0), sp(0, 1000000000), sp(1000000000), sp(7, 8)} {
		for _, unit := range []int{-1, 0, 2} {
			expectCheck(t, delay, network(4, 3, sure(0, 3, delay, unit), sure(0, 3, delay, unit), perhaps(3, 0, delay, unit)), api.OK)
		}
	}
	// Units can be without links, and links without units.
	expectCheck(t, "without units", network(4, 0, sure(0, 3, sp(0), -1)), api.OK)
	expectCheck(t, "no such unit", network(4, 0, sure(0, 3, sp(0), 0)), api.ErrNone)
	expectCheck(t, "one node", network(1, 20), api.OK)
	expectCheck(t, "to itself", network(1, 20, sure(0, 0, sp(0), 0)), api.ErrArg)
	expectCheck(t, "to no node", network(1, 20, sure(0, 1, sp(0), 0)), api.ErrNone)
	expectCheck(t, "last", network(64, 20, sure(63, 62, sp(0), 19), sure(0, 63, sp(0), 0)), api.OK)
}
