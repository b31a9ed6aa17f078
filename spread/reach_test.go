package spread_test

import (
	"slices"
	"testing"

	"tidewall/api"
	"tidewall/spread"
)

// P8.2: the bounds of all nodes, by definition, in small networks, and in great ones.
func TestReachByDefinition(t *testing.T) {
	r := dice(1)
	seen := map[string]int{}
	for k := range 6000 {
		n := randomNet(r, 7, 4, 14, []int{2, 9, 1000000000}[k%3])
		if k%20 == 0 {
			n = randomNet(r, 64, 20, 256, 50)
		}
		s := randomStart(r, n, []int{0, 9, 1000000000}[k%3])
		failed, doubtful := randomUnits(r, n), randomUnits(r, n)
		want := bounds(n, s, failed, doubtful)
		expectReach(t, k, n, s, failed, doubtful, want...)
		for _, x := range want {
			switch {
			case x.Lo == api.Never:
				seen["not reached"]++
			case x.Hi == api.Never:
				seen["perhaps"]++
			default:
				seen["for sure"]++
			}
		}
	}
	if seen["not reached"] < 1000 || seen["perhaps"] < 1000 || seen["for sure"] < 1000 {
		t.Error("few cases:", seen)
	}
}

// P8.2: the least sums, over ways of which the best one for one end need not be so for the other one.
func TestWays(t *testing.T) {
	n := network(4, 2,
		sure(0, 1, sp(10, 11), 0), sure(1, 3, sp(10, 11), 0),
		sure(0, 2, sp(0, 40), 1), sure(2, 3, sp(5, 9), -1),
		perhaps(0, 3, sp(3, 4), 1))
	s := start(0, sp(100, 200))
	for k, x := range []struct {
		failed, doubtful []int
		want             []api.Span
	}{
		{nil, nil, []api.Span{sp(100, 200), sp(110, 211), sp(100, 240), sp(103, 222)}},
		{[]int{0}, nil, []api.Span{sp(100, 200), never(), sp(100, 240), sp(103, 249)}},
		{[]int{1}, nil, []api.Span{sp(100, 200), sp(110, 211), never(), sp(120, 222)}},
		{[]int{0, 1}, nil, []api.Span{sp(100, 200), never(), never(), never()}},
		{nil, []int{0}, []api.Span{sp(100, 200), sp(110, api.Never), sp(100, 240), sp(103, 249)}},
		{nil, []int{1}, []api.Span{sp(100, 200), sp(110, 211), sp(100, api.Never), sp(103, 222)}},
		{nil, []int{1, 0}, []api.Span{sp(100, 200), sp(110, api.Never), sp(100, api.Never), sp(103, api.Never)}},
		{[]int{0}, []int{1}, []api.Span{sp(100, 200), never(), sp(100, api.Never), sp(103, api.Never)}},
		// Units in both lists have failed; units can be there twice.
		{[]int{0}, []int{0}, []api.Span{sp(100, 200), never(), sp(100, 240), sp(103, 249)}},
		{[]int{0, 0, 0}, []int{1, 0, 1}, []api.Span{sp(100, 200), never(), sp(100, api.Never), sp(103, api.Never)}},
	} {
		expectReach(t, k, n, s, x.failed, x.doubtful, x.want...)
	}
}

// P8.2: the start has its time, whatever leads back to it; links do not lead backwards.
func TestStart(t *testing.T) {
	n := network(3, 1, sure(0, 1, sp(0), -1), sure(1, 0, sp(0), -1), sure(2, 0, sp(0), 0))
	expectReach(t, 0, n, start(0, sp(5, 9)), nil, nil, sp(5, 9), sp(5, 9), never())
	expectReach(t, 1, n, start(1, sp(5, 9)), nil, nil, sp(5, 9), sp(5, 9), never())
	expectReach(t, 2, n, start(2, sp(5, 9)), nil, nil, sp(5, 9), sp(5, 9), sp(5, 9))
	expectReach(t, 3, n, start(2, sp(5, 9)), nil, []int{0}, sp(5, api.Never), sp(5, api.Never), sp(5, 9))
	expectReach(t, 4, n, start(2, sp(5, 9)), []int{0}, nil, never(), never(), sp(5, 9))
	expectReach(t, "alone", network(1, 0), start(0, sp(0, 1000000000)), nil, nil, sp(0, 1000000000))
}

// P8.2: a link without a unit never fails; one that is not sure counts for the least time alone, also with a doubtful unit.
func TestLinksThatCount(t *testing.T) {
	n := network(5, 2, perhaps(0, 1, sp(1), -1), sure(0, 2, sp(2), -1), perhaps(0, 3, sp(3), 0), sure(0, 4, sp(4), 0))
	s := start(0, sp(0))
	expectReach(t, 0, n, s, nil, nil, sp(0), sp(1, api.Never), sp(2), sp(3, api.Never), sp(4))
	expectReach(t, 1, n, s, nil, []int{0, 1}, sp(0), sp(1, api.Never), sp(2), sp(3, api.Never), sp(4, api.Never))
	expectReach(t, 2, n, s, []int{0, 1}, nil, sp(0), sp(1, api.Never), sp(2), never(), never())
	expectReach(t, 3, n, s, []int{1}, []int{1}, sp(0), sp(1, api.Never), sp(2), sp(3, api.Never), sp(4))
}

// P8.2: the longest way of all.
func TestLongestWay(t *testing.T) {
	n := network(64, 20)
	var want []api.Span
	for node := range 64 {
		want = append(want, sp(node*999999999, (node+1)*1000000000))
		if node < 63 {
			n.Links = append(n.Links, sure(node, node+1, sp(999999999, 1000000000), node%20))
		}
	}
	expectReach(t, "all", n, start(0, sp(0, 1000000000)), nil, nil, want...)
	// The unit 19 comes first behind the node 19.
	for node := 20; node < 64; node++ {
		want[node].Hi = api.Never
	}
	expectReach(t, "doubtful", n, start(0, sp(0, 1000000000)), nil, []int{19}, want...)
	for node := 20; node < 64; node++ {
		want[node].Lo = api.Never
	}
	expectReach(t, "failed", n, start(0, sp(0, 1000000000)), []int{19}, nil, want...)
}

// P8.2: the greatest networks, in which a node is reached often, each time earlier.
func TestManyWays(t *testing.T) {
	n := network(17, 1)
	for from := range 16 {
		for to := from + 1; to < 17; to++ {
			gap := to - from
			n.Links = append(n.Links, sure(from, to, sp(gap*gap, gap*gap*2), 0))
		}
	}
	var want []api.Span
	for node := range 17 {
		want = append(want, sp(node, 2*node))
	}
	expectReach(t, 0, n, start(0, sp(0)), nil, nil, want...)
	slices.Reverse(n.Links)
	expectReach(t, 1, n, start(0, sp(0)), nil, nil, want...)
}

// P8.2: units that do not exist, in either list, at any place.
func TestNoSuchUnit(t *testing.T) {
	for _, bad := range badNumbers(0, 2) {
		for k, l := range [][]int{{bad}, {0, bad}, {bad, 1}, {0, 1, 2, bad, 0}} {
			for _, right := range [][]int{nil, {0}, l} {
				for _, lists := range [][2][]int{{l, right}, {right, l}} {
					if out, e := spread.Reach(exampleN(), exampleS(), lists[0], lists[1]); e != api.ErrNone || len(out) != 0 {
						t.Error(k, lists, out, e)
					}
				}
			}
		}
	}
	if _, e := spread.Reach(network(2, 0), start(0, sp(0)), []int{0}, nil); e != api.ErrNone {
		t.Error(e)
	}
	if _, e := spread.Reach(network(2, 0), start(0, sp(0)), nil, []int{0}); e != api.ErrNone {
		t.Error(e)
	}
}
