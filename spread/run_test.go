package spread_test

import (
	"math/rand/v2"
	"slices"
	"testing"

	"tidewall/api"
	"tidewall/spread"
)

// got are the receipts of the nodes 0, 1, .., at these times; -1 for none.
func got(times ...int) []spread.Receipt {
	var l []spread.Receipt
	for node, time := range times {
		if time >= 0 {
			l = append(l, spread.Receipt{Node: node, Time: time})
		}
	}
	return l
}

// runCase is a run with what it says: with conflict, nothing.
type runCase struct {
	links          []spread.Link
	l              []spread.Receipt
	until          int
	worked, failed []int
	conflict       bool
}

// expectRuns checks runs from the node 0, from 0 to 10 on, in a network of 4 nodes and 3 units.
func expectRuns(t *testing.T, l []runCase) {
	t.Helper()
	for k, x := range l {
		n, s := network(4, 3, x.links...), start(0, sp(0, 10))
		if x.conflict {
			expectConflict(t, k, n, s, x.l, x.until)
		} else {
			expectRun(t, k, n, s, x.l, x.until, x.worked, x.failed)
		}
	}
}

// P8.6: what a single link says.
func TestRunOfOneLink(t *testing.T) {
	of := func(l spread.Link) []spread.Link { return []spread.Link{l} }
	unit, doubted := of(sure(0, 1, sp(2, 5), 0)), of(perhaps(0, 1, sp(2, 5), 0))
	free, loose := of(sure(0, 1, sp(2, 5), -1)), of(perhaps(0, 1, sp(2, 5), -1))
	one := []int{0}
	expectRuns(t, []runCase{
		// no receipt, before and behind the last time of the link
		{links: unit, l: got(3), until: 3},
		{links: unit, l: got(3), until: 7},
		{links: unit, l: got(3), until: 8, failed: one},
		{links: unit, l: got(3), until: 1000000000, failed: one},
		{links: doubted, l: got(3), until: 100},
		{links: free, l: got(3), until: 7},
		{links: free, l: got(3), until: 8, conflict: true},
		{links: loose, l: got(3), until: 100},
		// a receipt at the ends of the delay
		{links: unit, l: got(3, 4), until: 100, conflict: true},
		{links: unit, l: got(3, 5), until: 5, worked: one},
		{links: unit, l: got(3, 8), until: 8, worked: one},
		{links: unit, l: got(3, 8), until: 100, worked: one},
		{links: unit, l: got(3, 9), until: 9, conflict: true},
		{links: doubted, l: got(3, 4), until: 100, conflict: true},
		{links: doubted, l: got(3, 5), until: 100, worked: one},
		{links: doubted, l: got(3, 8), until: 100, worked: one},
		{links: doubted, l: got(3, 9), until: 100, conflict: true},
		{links: free, l: got(3, 4), until: 100, conflict: true},
		{links: free, l: got(3, 5), until: 100},
		{links: free, l: got(3, 8), until: 100},
		{links: free, l: got(3, 9), until: 100, conflict: true},
		{links: loose, l: got(3, 4), until: 100, conflict: true},
		{links: loose, l: got(3, 8), until: 100},
		{links: loose, l: got(3, 9), until: 100, conflict: true},
		// the time of the start
		{links: unit, l: got(0), until: 0},
		{links: unit, l: got(10), until: 10},
		{links: unit, l: got(11), until: 11, conflict: true},
		{links: unit, l: got(11, 13), until: 100, conflict: true},
		{links: nil, l: got(10), until: 100},
		{links: nil, l: got(10, 10), until: 100, conflict: true},
		{links: nil, l: got(10, -1, -1, 0), until: 100, conflict: true},
	})
	late := start(0, sp(5, 10))
	expectConflict(t, "too early", network(2, 1, unit...), late, got(4), 4)
	expectRun(t, "in time", network(2, 1, unit...), late, got(5), 5, nil, nil)
}

// P8.6: what links say together.
func TestRunOfLinks(t *testing.T) {
	expectRuns(t, []runCase{
		// Two links can have brought it: of two units, of one, of one and of none.
		{links: []spread.Link{sure(0, 1, sp(2, 5), 0), sure(0, 1, sp(2, 5), 1)}, l: got(0, 4), until: 9},
		{links: []spread.Link{sure(0, 1, sp(2, 5), 0), perhaps(0, 1, sp(2, 5), 1)}, l: got(0, 4), until: 9},
		{links: []spread.Link{sure(0, 1, sp(2, 5), 1), perhaps(0, 1, sp(0, 9), 1)}, l: got(0, 4), until: 9, worked: []int{1}},
		{links: []spread.Link{sure(0, 1, sp(2, 5), 1), perhaps(0, 1, sp(0, 9), -1)}, l: got(0, 4), until: 9},
		{links: []spread.Link{sure(0, 1, sp(2, 5), 1), perhaps(0, 1, sp(5, 9), -1)}, l: got(0, 4), until: 9, worked: []int{1}},
		// One that was too slow failed, and cannot have brought it later; one that is not sure did not.
		{links: []spread.Link{sure(0, 1, sp(2, 3), 0), sure(0, 1, sp(2, 5), 1)}, l: got(0, 4), until: 9, worked: []int{1}, failed: []int{0}},
		{links: []spread.Link{sure(0, 1, sp(2, 3), 0), sure(0, 1, sp(2, 5), 1)}, l: got(0, 4), until: 4, worked: []int{1}, failed: []int{0}},
		{links: []spread.Link{perhaps(0, 1, sp(2, 3), 0), sure(0, 1, sp(2, 5), 1)}, l: got(0, 4), until: 9, worked: []int{1}},
		{links: []spread.Link{sure(0, 1, sp(2, 3), -1), sure(0, 1, sp(2, 5), 1)}, l: got(0, 4), until: 9, conflict: true},
		// A unit that failed at another link has not brought anything.
		{links: []spread.Link{sure(0, 1, sp(2, 5), 0), sure(0, 2, sp(2, 5), 0)}, l: got(0, 4), until: 9, conflict: true},
		{links: []spread.Link{sure(0, 1, sp(2, 5), 0), perhaps(0, 2, sp(2, 5), 0)}, l: got(0, 4), until: 9, worked: []int{0}},
		{links: []spread.Link{sure(0, 1, sp(2, 5), 0), sure(0, 1, sp(2, 9), 2), sure(0, 2, sp(2, 5), 0)}, l: got(0, 4), until: 9, worked: []int{2}, failed: []int{0}},
		{links: []spread.Link{sure(0, 1, sp(2, 5), 0), sure(0, 1, sp(2, 9), 2), sure(0, 2, sp(2, 5), 0)}, l: got(0, 4), until: 4},
		// Nothing came to the beginning of a link.
		{links: []spread.Link{sure(2, 1, sp(0, 1), 0), sure(3, 2, sp(0), -1)}, l: got(0), until: 9},
		{links: []spread.Link{sure(0, 1, sp(2, 5), 0), sure(2, 1, sp(4), 1), sure(2, 3, sp(0), 1)}, l: got(0, 4), until: 9, worked: []int{0}},
		// Farther on: each receipt counts from that before it.
		{links: []spread.Link{sure(0, 1, sp(2, 5), 0), sure(1, 2, sp(2, 5), 1), sure(2, 3, sp(2, 5), 2)}, l: got(3, 8, 10, 15), until: 15, worked: []int{0, 1, 2}},
		{links: []spread.Link{sure(0, 1, sp(2, 5), 0), sure(1, 2, sp(2, 5), 1), sure(2, 3, sp(2, 5), 2)}, l: got(3, 8, 10), until: 15, worked: []int{0, 1}, failed: []int{2}},
		{links: []spread.Link{sure(0, 1, sp(2, 5), 0), sure(1, 2, sp(2, 5), 1), sure(2, 3, sp(2, 5), 2)}, l: got(3, 8), until: 12, worked: []int{0}},
		{links: []spread.Link{sure(0, 1, sp(2, 5), 0), sure(1, 2, sp(2, 5), 1), sure(2, 3, sp(2, 5), 2)}, l: got(3, 8, -1, 15), until: 20, conflict: true},
		{links: []spread.Link{sure(0, 1, sp(2, 5), 2), sure(0, 2, sp(2, 5), 0), sure(0, 3, sp(2, 5), 1)}, l: got(3, 5), until: 20, worked: []int{2}, failed: []int{0, 1}},
		{links: []spread.Link{sure(0, 1, sp(2, 5), 2), sure(0, 2, sp(2, 5), 0), sure(0, 3, sp(2, 5), 1)}, l: got(3, 5, 8, 7), until: 20, worked: []int{0, 1, 2}},
	})
}

// P8.6: links to the node of the start do not matter.
func TestLinksToTheStart(t *testing.T) {
	back, there := sure(1, 0, sp(0), 0), sure(0, 1, sp(2, 5), 1)
	expectRuns(t, []runCase{
		{links: []spread.Link{there, back}, l: got(5, 8), until: 20, worked: []int{1}},
		{links: []spread.Link{there, sure(1, 0, sp(0), -1)}, l: got(5, 8), until: 20, worked: []int{1}},
		// Something before the start, which can have brought itself.
		{links: []spread.Link{back, sure(1, 2, sp(0), 2), perhaps(2, 1, sp(0), -1)}, l: got(9, 4, 4), until: 20, worked: []int{2}},
		{links: []spread.Link{sure(1, 0, sp(0), -1), sure(1, 2, sp(0), 2), perhaps(2, 1, sp(0), -1)}, l: got(9, 4, 4), until: 20, worked: []int{2}},
		// What can have brought the receipt of the start says nothing.
		{links: []spread.Link{sure(1, 0, sp(0, 5), 0), sure(1, 2, sp(0), -1), perhaps(2, 1, sp(0), -1)}, l: got(9, 4, 4), until: 20},
	})
}

// P8.6: the order of receipts does not matter.
func TestOrderOfReceipts(t *testing.T) {
	r := dice(5)
	l := []spread.Receipt{{Node: 0, Time: 100}, {Node: 2, Time: 130}, {Node: 3, Time: 140}}
	for range 20 {
		r.Shuffle(len(l), func(i, j int) { l[i], l[j] = l[j], l[i] })
		expectRun(t, l, exampleN(), exampleS(), l, 200, []int{1, 2}, []int{0})
	}
}

// P8.6, R1: the errors of receipts: the first one decides, and of its errors the one named first; before that until, behind it that the start has none.
func TestWrongReceipts(t *testing.T) {
	n, s := exampleN(), exampleS()
	expect := func(l []spread.Receipt, until int, want api.Errno) {
		t.Helper()
		if up, down, e := spread.Diagnose(n, s, l, until); e != want || e != api.OK && len(up)+len(down) != 0 {
			t.Error(l, until, up, down, e, want)
		}
	}
	first := spread.Receipt{Node: 0, Time: 100}
	wrong := map[spread.Receipt]api.Errno{}
	for _, node := range badNumbers(0, 3) {
		wrong[spread.Receipt{Node: node, Time: 150}] = api.ErrNone
		wrong[spread.Receipt{Node: node, Time: -1}] = api.ErrNone
	}
	for _, time := range badNumbers(0, 200) {
		wrong[spread.Receipt{Node: 0, Time: time}] = api.ErrHave
		wrong[spread.Receipt{Node: 3, Time: time}] = api.ErrRange
	}
	wrong[spread.Receipt{Node: 0, Time: 100}] = api.ErrHave
	wrong[spread.Receipt{Node: 0, Time: 7}] = api.ErrHave
	for x, want := range wrong {
		expect([]spread.Receipt{first, x}, 200, want)
		expect([]spread.Receipt{first, {Node: 2, Time: 130}, x}, 200, want)
		for y := range wrong {
			expect([]spread.Receipt{first, x, y}, 200, want)
		}
		for _, until := range badNumbers(0, 1000000000) {
			expect([]spread.Receipt{first, x}, until, api.ErrRange)
		}
		if want != api.ErrHave {
			expect([]spread.Receipt{x}, 200, want)
			expect([]spread.Receipt{x, first}, 200, want)
		}
	}
	// The start has no receipt: this comes before what contradicts, and behind what is wrong.
	expect(nil, 200, api.ErrArg)
	expect([]spread.Receipt{}, 200, api.ErrArg)
	expect([]spread.Receipt{{Node: 3, Time: 5}}, 200, api.ErrArg)
	expect([]spread.Receipt{{Node: 3, Time: 5}, {Node: 3, Time: 5}}, 200, api.ErrHave)
	expect([]spread.Receipt{{Node: 3, Time: 201}}, 200, api.ErrRange)
	expect([]spread.Receipt{{Node: 3, Time: 5}, {Node: 4, Time: 5}}, 200, api.ErrNone)
	expect([]spread.Receipt{first, {Node: 3, Time: 5}}, 200, api.ErrConflict)
	// The ends of times.
	expect([]spread.Receipt{first}, 100, api.OK)
	expect([]spread.Receipt{first}, 99, api.ErrRange)
	s = start(0, sp(0, 1000000000))
	expect([]spread.Receipt{{Node: 0, Time: 0}}, 0, api.OK)
	expect([]spread.Receipt{{Node: 0, Time: 1000000000}}, 1000000000, api.OK)
}

// randomReceipts are receipts without an error, that of the start among them.
func randomReceipts(r *rand.Rand, n spread.Net, s spread.Start, until int) []spread.Receipt {
	var l []spread.Receipt
	for _, node := range r.Perm(n.Nodes) {
		if node == s.Node || r.IntN(3) > 0 {
			l = append(l, spread.Receipt{Node: node, Time: r.IntN(until + 1)})
		}
	}
	return l
}

// P8.6: runs by definition, also such as cannot happen.
func TestRunsByDefinition(t *testing.T) {
	r := dice(6)
	counts := map[string]int{}
	for k := range 40000 {
		n := randomNet(r, 4, 3, 7, 4)
		s := randomStart(r, n, 4)
		until := r.IntN(8)
		l := randomReceipts(r, n, s, until)
		if i := slices.IndexFunc(l, func(x spread.Receipt) bool { return x.Node == s.Node }); l[i].Time > s.Time.Hi && k%4 > 0 {
			l[i].Time = s.Time.Hi
			if s.Time.Hi > until {
				continue
			}
		}
		worked, failed, want := diagnose(n, s, l, until)
		if want == api.ErrConflict {
			expectConflict(t, k, n, s, l, until)
			counts["conflict"]++
			continue
		}
		expectRun(t, k, n, s, l, until, worked, failed)
		counts["worked"] += len(worked)
		counts["failed"] += len(failed)
		if len(l) > 2 {
			counts["long"]++
		}
	}
	if counts["conflict"] < 1000 || counts["worked"] < 500 || counts["failed"] < 500 || counts["long"] < 200 {
		t.Error("few cases:", counts)
	}
}
