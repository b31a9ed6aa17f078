package spread_test

import (
	"math/rand/v2"
	"slices"
	"testing"

	"tidewall/api"
	"tidewall/spread"
)

// randomDue is a due of a network: its time is often one of those that matter.
func randomDue(r *rand.Rand, n spread.Net, s spread.Start, states []int) spread.Due {
	d := spread.Due{Node: r.IntN(n.Nodes), By: r.IntN(60)}
	hi := worst(n, s, states, r.IntN(4))[d.Node].Hi
	switch r.IntN(8) {
	case 0:
		d.By = api.Never
	case 1:
		d.By = api.Never - 1
	case 2, 3, 4:
		d.By = hi
	case 5, 6:
		d.By = max(0, hi-1)
	}
	return d
}

// P8.4, P8.5: all functions with states, by definition.
func TestStatesCountByDefinition(t *testing.T) {
	r := dice(3)
	late, strengths, blamed := 0, map[int]int{}, map[int]int{}
	for k := range 6000 {
		n := randomNet(r, 6, 6, 14, 9)
		s := randomStart(r, n, 20)
		if k%3 == 0 {
			n, s.Node = randomDense(r), 0
		}
		states := randomStates(r, n.Units)
		f := r.IntN(4)
		want := worst(n, s, states, f)
		expectWorst(t, k, n, s, states, f, want...)
		var dues []spread.Due
		var met []bool
		for range r.IntN(4) {
			d := randomDue(r, n, s, states)
			dues = append(dues, d)
			met = append(met, want[d.Node].Hi <= d.By)
			set, isLate := blame(n, s, states, f, d)
			expectBlame(t, k, n, s, states, f, d, isLate, set...)
			most := strong(n, s, states, d)
			expectStrong(t, k, n, s, states, d, most)
			expectNeeded(t, k, n, s, states, d, needed(n, s, states, d)...)
			strengths[most]++
			if isLate {
				late++
				blamed[len(set)]++
			}
		}
		expectMeets(t, k, n, s, states, f, dues, met...)
	}
	if late < 1000 || len(strengths) != 5 || len(blamed) != 4 {
		t.Error("few cases:", late, strengths, blamed)
	}
	for f := range 4 {
		if strengths[f] < 50 || blamed[f] < 50 {
			t.Error("few cases:", strengths, blamed)
		}
	}
}

// randomDense is a network with many ways, each of which has units of its own: it takes more failures.
func randomDense(r *rand.Rand) spread.Net {
	n := network(3, 7)
	for unit := range 7 {
		l := randomLink(r, 3, 0, 9)
		l.Unit, l.Sure = unit, true
		if l.To == 0 {
			l.From, l.To = l.To, l.From
		}
		n.Links = append(n.Links, l)
	}
	return n
}

// parallel is a network of two nodes with a link for each unit, which takes so long.
func parallel(delays ...int) spread.Net {
	n := network(2, len(delays))
	for unit, delay := range delays {
		n.Links = append(n.Links, sure(0, 1, sp(delay), unit))
	}
	return n
}

// P8.4: as many fine units fail as there are, at most; those that are not fine do not count.
func TestFailuresThatCount(t *testing.T) {
	n, s := parallel(10, 20, 30, 40, 50), start(0, sp(0))
	const f, d, x = spread.Fine, spread.Doubtful, spread.Failed
	for k, c := range []struct {
		states []int
		want   [4]api.Span // of the node 1, for each number of failures
	}{
		{[]int{f, f, f, f, f}, [4]api.Span{sp(10), sp(10, 20), sp(10, 30), sp(10, 40)}},
		{[]int{x, f, f, f, f}, [4]api.Span{sp(20), sp(20, 30), sp(20, 40), sp(20, 50)}},
		{[]int{d, f, f, f, f}, [4]api.Span{sp(10, 20), sp(10, 30), sp(10, 40), sp(10, 50)}},
		{[]int{f, x, f, d, f}, [4]api.Span{sp(10), sp(10, 30), sp(10, 50), sp(10, api.Never)}},
		{[]int{d, d, d, d, f}, [4]api.Span{sp(10, 50), sp(10, api.Never), sp(10, api.Never), sp(10, api.Never)}},
		{[]int{x, x, x, d, x}, [4]api.Span{sp(40, api.Never), sp(40, api.Never), sp(40, api.Never), sp(40, api.Never)}},
		{[]int{x, x, x, x, x}, [4]api.Span{never(), never(), never(), never()}},
	} {
		for f, want := range c.want {
			expectWorst(t, k, n, s, c.states, f, sp(0), want)
		}
	}
	// Fewer units than can fail.
	expectWorst(t, "two", parallel(10, 20), s, fine(2), 3, sp(0), sp(10, api.Never))
	expectWorst(t, "none", network(2, 0, sure(0, 1, sp(3, 5), -1)), s, nil, 3, sp(0), sp(3, 5))
	// A link without a unit never fails.
	expectWorst(t, "never fails", network(2, 3, append(parallel(10, 20, 30).Links, sure(0, 1, sp(70), -1))...), s, fine(3), 3, sp(0), sp(10, 70))
}

// P8.4: the sets that are worst for nodes differ from node to node.
func TestWorstOfEachNode(t *testing.T) {
	n := network(4, 3, sure(0, 1, sp(1), 0), sure(0, 2, sp(2), 1), sure(0, 3, sp(3), 2), sure(0, 1, sp(11), -1), sure(0, 2, sp(12), -1), sure(0, 3, sp(13), -1))
	expectWorst(t, 0, n, start(0, sp(0)), fine(3), 0, sp(0), sp(1), sp(2), sp(3))
	expectWorst(t, 1, n, start(0, sp(0)), fine(3), 1, sp(0), sp(1, 11), sp(2, 12), sp(3, 13))
}

// P8.4: dues at the end of what is in time, and those without an end.
func TestTimesOfDues(t *testing.T) {
	n, s := network(3, 1, sure(0, 1, sp(4, 9), 0)), start(0, sp(5, 7))
	for k, x := range []struct {
		d    spread.Due
		want [2]bool // with no failure, and with one
	}{
		{spread.Due{Node: 0, By: 7}, [2]bool{true, true}},
		{spread.Due{Node: 0, By: 6}, [2]bool{}},
		{spread.Due{Node: 1, By: 16}, [2]bool{true, false}},
		{spread.Due{Node: 1, By: 15}, [2]bool{}},
		{spread.Due{Node: 1, By: 0}, [2]bool{}},
		{spread.Due{Node: 1, By: api.Never - 1}, [2]bool{true, false}},
		{spread.Due{Node: 1, By: api.Never}, [2]bool{true, true}},
		{spread.Due{Node: 2, By: api.Never - 1}, [2]bool{}},
		{spread.Due{Node: 2, By: api.Never}, [2]bool{true, true}},
	} {
		for f, want := range x.want {
			expectMeets(t, k, n, s, fine(1), f, []spread.Due{x.d}, want)
			if set, isLate, e := spread.Blame(n, s, fine(1), f, x.d); e != api.OK || isLate == want || !isLate && len(set) > 0 {
				t.Error(k, f, set, isLate, e)
			}
		}
	}
	expectMeets(t, "none", n, s, fine(1), 0, nil)
}

// P8.4, R7: how many dues there can be.
func TestManyDues(t *testing.T) {
	n, s := exampleN(), exampleS()
	l := slices.Repeat([]spread.Due{{Node: 3, By: 129}, {Node: 3, By: 130}}, 32)
	expectMeets(t, 64, n, s, fine(3), 0, l, slices.Repeat([]bool{false, true}, 32)...)
	for _, x := range []spread.Due{{}, {Node: -1, By: -1}} {
		if out, e := spread.Meets(n, s, fine(3), 0, slices.Repeat([]spread.Due{x}, 65)); e != api.ErrMany || len(out) != 0 {
			t.Error(out, e)
		}
	}
}

// P8.4, P8.5, R1: dues that are wrong: the first one decides, and of its errors the one named first.
func TestWrongDues(t *testing.T) {
	wrong := map[spread.Due]api.Errno{}
	for _, node := range badNumbers(0, 3) {
		wrong[spread.Due{Node: node, By: 5}] = api.ErrNone
		wrong[spread.Due{Node: node, By: -1}] = api.ErrNone
	}
	for _, by := range badNumbers(0, api.Never) {
		wrong[spread.Due{Node: 3, By: by}] = api.ErrRange
	}
	n, s, right := exampleN(), exampleS(), spread.Due{Node: 3, By: 5}
	for x, want := range wrong {
		lists := [][]spread.Due{{x}, {right, x}, {x, right}, {right, right, x, right}}
		for y := range wrong {
			lists = append(lists, []spread.Due{right, x, y})
		}
		for _, l := range lists {
			if out, e := spread.Meets(n, s, fine(3), 1, l); e != want || len(out) != 0 {
				t.Error(l, out, e, want)
			}
		}
		set, isLate, e := spread.Blame(n, s, fine(3), 1, x)
		most, e2 := spread.Strong(n, s, fine(3), x)
		units, e3 := spread.Needed(n, s, fine(3), x)
		if e != want || e2 != want || e3 != want || isLate || len(set) != 0 || most != 0 || len(units) != 0 {
			t.Error(x, set, isLate, e, most, e2, units, e3, want)
		}
	}
}

// P8.4, P8.5, R8: states that are wrong, and numbers of failures.
func TestWrongStates(t *testing.T) {
	n, s, d := exampleN(), exampleS(), []spread.Due{{Node: 3, By: 5}}
	expect := func(states []int, f int, want, withoutFailures api.Errno) {
		t.Helper()
		spans, e := spread.Worst(n, s, states, f)
		met, e2 := spread.Meets(n, s, states, f, d)
		set, isLate, e3 := spread.Blame(n, s, states, f, d[0])
		most, e4 := spread.Strong(n, s, states, d[0])
		units, e5 := spread.Needed(n, s, states, d[0])
		if e != want || e2 != want || e3 != want || len(spans) != 0 || len(met) != 0 || len(set) != 0 || isLate {
			t.Error(states, f, spans, e, met, e2, set, isLate, e3, want)
		}
		if e4 != withoutFailures || e5 != withoutFailures || e4 != api.OK && most != 0 || e5 != api.OK && len(units) != 0 {
			t.Error(states, f, most, e4, units, e5, withoutFailures)
		}
	}
	for _, l := range [][]int{nil, {}, {1}, {1, 1}, {1, 1, 1, 1}, {0}, {9, 9, 9, 9}, slices.Repeat([]int{1}, 21)} {
		expect(l, 0, api.ErrShape, api.ErrShape)
		expect(l, -1, api.ErrShape, api.ErrShape)
	}
	for _, bad := range badNumbers(1, 3) {
		for _, l := range [][]int{{bad, 1, 1}, {1, bad, 1}, {1, 2, bad}, {bad, bad, bad}} {
			expect(l, 0, api.ErrArg, api.ErrArg)
			expect(l, 4, api.ErrArg, api.ErrArg)
		}
	}
	for _, f := range badNumbers(0, 3) {
		expect([]int{1, 2, 3}, f, api.ErrRange, api.OK)
	}
}

// P8.5: the order of sets: by their sizes first, then number by number.
func TestOrderOfSets(t *testing.T) {
	s := start(0, sp(0))
	by := func(time int) spread.Due { return spread.Due{Node: 1, By: time} }
	for k, x := range []struct {
		n      spread.Net
		states []int
		f, by  int
		isLate bool
		want   []int
		strong int
		needed []int
	}{
		// Late without any failure: the empty set.
		{n: parallel(10, 10), states: []int{1, 1}, f: 0, by: 9, isLate: true, strong: -1, needed: []int{0, 1}},
		{n: parallel(10, 10), states: []int{1, 1}, f: 3, by: 9, isLate: true, strong: -1, needed: []int{0, 1}},
		{n: network(2, 2), states: []int{1, 2}, f: 0, by: 9, isLate: true, strong: -1, needed: []int{0}},
		{n: network(2, 0), f: 2, by: 9, isLate: true, strong: -1},
		// Two have to fail.
		{n: parallel(10, 10), states: []int{1, 1}, f: 1, by: 10, strong: 1},
		{n: parallel(10, 10), states: []int{1, 1}, f: 2, by: 10, isLate: true, want: []int{0, 1}, strong: 1},
		// Those that are not fine need not fail.
		{n: parallel(10, 10, 10), states: []int{2, 1, 1}, f: 3, by: 10, isLate: true, want: []int{1, 2}, strong: 1},
		{n: parallel(10, 10, 10), states: []int{1, 3, 1}, f: 3, by: 10, isLate: true, want: []int{0, 2}, strong: 1},
		{n: parallel(10, 10, 10), states: []int{2, 3, 1}, f: 3, by: 10, isLate: true, want: []int{2}, strong: 0, needed: []int{2}},
		{n: parallel(10, 10, 10), states: []int{2, 3, 2}, f: 3, by: 10, isLate: true, strong: -1},
		// One that is greater comes before two that are less.
		{n: network(2, 3, sure(0, 1, sp(10), 2), sure(0, 1, sp(10), 2)), states: []int{1, 1, 1}, f: 3, by: 10, isLate: true, want: []int{2}, strong: 0, needed: []int{2}},
		// More than four have to fail, or none of them can do harm.
		{n: parallel(10, 10, 10, 10), states: []int{1, 1, 1, 1}, f: 3, by: 10, strong: 3},
		{n: parallel(10, 10, 10, 10), states: []int{1, 1, 1, 2}, f: 3, by: 10, isLate: true, want: []int{0, 1, 2}, strong: 2},
		{n: network(2, 2, sure(0, 1, sp(10), -1)), states: []int{1, 1}, f: 3, by: 10, strong: 3},
	} {
		expectBlame(t, k, x.n, s, x.states, x.f, by(x.by), x.isLate, x.want...)
		expectStrong(t, k, x.n, s, x.states, by(x.by), x.strong)
		expectNeeded(t, k, x.n, s, x.states, by(x.by), x.needed...)
	}
}

// P8.5: of sets that are equally great the first one, for all pairs and triples of units that fail together.
func TestFirstOfEqualSets(t *testing.T) {
	// Each link of a way depends on one of its units: the way is cut by any of them.
	ways := func(l ...[]int) spread.Net {
		n := network(2, 5)
		for _, units := range l {
			from := 0
			for i, unit := range units {
				to := 1
				if i < len(units)-1 {
					to = n.Nodes
					n.Nodes++
				}
				n.Links = append(n.Links, sure(from, to, sp(0), unit))
				from = to
			}
		}
		return n
	}
	d := spread.Due{Node: 1, By: 0}
	for k, x := range []struct {
		ways [][]int
		want []int
	}{
		{[][]int{{4, 3, 2}}, []int{2}},
		{[][]int{{4, 1}, {3, 2}}, []int{1, 2}},
		{[][]int{{4, 0}, {3, 2}, {2, 1}}, []int{0, 2}},
		{[][]int{{0, 1}, {2, 3}, {1, 3}}, []int{0, 3}},
		{[][]int{{0, 4}, {1, 3}, {2}}, []int{0, 1, 2}},
		{[][]int{{4, 3}, {2, 3}, {1, 3}}, []int{3}},
		{[][]int{{4, 3}, {2, 3}, {1}}, []int{1, 3}},
		{[][]int{{2}, {3}, {4}}, []int{2, 3, 4}},
	} {
		expectBlame(t, k, ways(x.ways...), start(0, sp(0)), fine(5), 3, d, true, x.want...)
		expectBlame(t, k, ways(x.ways...), start(0, sp(0)), fine(5), len(x.want)-1, d, false)
	}
}

// P8.4, P8.5, P0: the greatest network.
func TestGreatestNet(t *testing.T) {
	r := dice(4)
	n := network(64, 20)
	for i := range 256 {
		from := i % 63
		n.Links = append(n.Links, sure(from, min(63, from+1+r.IntN(3)), sp(r.IntN(50), 50+r.IntN(50)), i%20))
	}
	s := start(0, sp(0, 5))
	want := worst(n, s, fine(20), 3)
	expectWorst(t, "greatest", n, s, fine(20), 3, want...)
	var l []spread.Due
	var met []bool
	for node, x := range want {
		l = append(l, spread.Due{Node: node, By: x.Hi - node%2})
		met = append(met, node%2 == 0)
	}
	expectMeets(t, "greatest", n, s, fine(20), 3, l, met...)
	for node := 1; node < 64; node += 10 {
		d := spread.Due{Node: node, By: want[node].Hi - 1}
		set, isLate := blame(n, s, fine(20), 3, d)
		expectBlame(t, "greatest", n, s, fine(20), 3, d, isLate, set...)
		expectStrong(t, "greatest", n, s, fine(20), d, len(set)-1)
		d.By++
		expectBlame(t, "greatest", n, s, fine(20), 3, d, false)
		expectStrong(t, "greatest", n, s, fine(20), d, 3)
	}
}
