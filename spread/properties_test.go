package spread_test

import (
	"math/rand/v2"
	"slices"
	"testing"

	"tidewall/api"
	"tidewall/spread"
)

// randomCase is a network with a start, states and a number of failures.
func randomCase(r *rand.Rand) (spread.Net, spread.Start, []int, int) {
	n := randomNet(r, 6, 5, 14, 9)
	return n, randomStart(r, n, 20), randomStates(r, n.Units), r.IntN(4)
}

func worstOf(t *testing.T, n spread.Net, s spread.Start, states []int, f int) []api.Span {
	t.Helper()
	l, e := spread.Worst(n, s, states, f)
	if e != api.OK {
		t.Fatal(n, s, states, f, e)
	}
	return l
}

// P8.8: with a lesser number of failures no Hi is greater, and no Lo changes.
func TestFewerFailures(t *testing.T) {
	r := dice(10)
	changed := 0
	for k := range 3000 {
		n, s, states, _ := randomCase(r)
		for f := range 3 {
			less, more := worstOf(t, n, s, states, f), worstOf(t, n, s, states, f+1)
			for node := range less {
				if less[node].Lo != more[node].Lo || less[node].Hi > more[node].Hi {
					t.Error(k, n, s, states, f, less, more)
				}
				if less[node].Hi < more[node].Hi {
					changed++
				}
			}
		}
	}
	if changed < 1000 {
		t.Error("few cases:", changed)
	}
}

// P8.8, G1: with better states no Hi is greater: Fine in place of Doubtful, or Doubtful in place of Failed.
func TestBetterStates(t *testing.T) {
	r := dice(11)
	changed := 0
	for k := range 10000 {
		n, s, states, f := randomCase(r)
		for unit := range states {
			states[unit] = 1 + r.IntN(3)
		}
		better := slices.Clone(states)
		for unit, state := range states {
			if state != spread.Fine && r.IntN(4) > 0 {
				better[unit]--
			}
		}
		a, b := worstOf(t, n, s, better, f), worstOf(t, n, s, states, f)
		for node := range a {
			if a[node].Hi > b[node].Hi || a[node].Lo > b[node].Lo {
				t.Error(k, n, s, states, better, f, a, b)
			}
			if a[node].Hi < b[node].Hi {
				changed++
			}
		}
	}
	if changed < 300 {
		t.Error("few cases:", changed)
	}
}

// P8.8: with links besides no bound becomes greater.
func TestMoreLinks(t *testing.T) {
	r := dice(12)
	changed := 0
	for k := range 4000 {
		n, s, states, f := randomCase(r)
		if n.Nodes == 1 {
			continue
		}
		more := n
		more.Links = slices.Insert(slices.Clone(n.Links), r.IntN(len(n.Links)+1), randomLink(r, n.Nodes, n.Units, 9))
		failed, doubtful := randomUnits(r, n), randomUnits(r, n)
		a, b := worstOf(t, more, s, states, f), worstOf(t, n, s, states, f)
		c, _ := spread.Reach(more, s, failed, doubtful)
		d, _ := spread.Reach(n, s, failed, doubtful)
		for node := range a {
			if a[node].Lo > b[node].Lo || a[node].Hi > b[node].Hi || c[node].Lo > d[node].Lo || c[node].Hi > d[node].Hi {
				t.Error(k, n, more, s, states, f, a, b, c, d)
			}
			if a[node] != b[node] {
				changed++
			}
		}
	}
	if changed < 1000 {
		t.Error("few cases:", changed)
	}
}

// P8.8, G1: with delays and a time within others, the bounds lie within the others'.
func TestInclusion(t *testing.T) {
	r := dice(13)
	changed := 0
	for k := range 4000 {
		n, s, states, f := randomCase(r)
		narrow := n
		narrow.Links = slices.Clone(n.Links)
		for i := range narrow.Links {
			narrow.Links[i].Delay = randomSpan(r, n.Links[i].Delay)
		}
		begin := start(s.Node, randomSpan(r, s.Time))
		failed, doubtful := randomUnits(r, n), randomUnits(r, n)
		a, b := worstOf(t, narrow, begin, states, f), worstOf(t, n, s, states, f)
		c, _ := spread.Reach(narrow, begin, failed, doubtful)
		d, _ := spread.Reach(n, s, failed, doubtful)
		for node := range a {
			if a[node].Lo < b[node].Lo || a[node].Hi > b[node].Hi || c[node].Lo < d[node].Lo || c[node].Hi > d[node].Hi {
				t.Error(k, n, narrow, s, begin, states, f, a, b, c, d)
			}
			if a[node] != b[node] {
				changed++
			}
		}
	}
	if changed < 1000 {
		t.Error("few cases:", changed)
	}
}

// hiWith is the Hi of a node by Reach, when fine units have failed besides those that states say.
func hiWith(t *testing.T, n spread.Net, s spread.Start, states, others []int, node int) int {
	t.Helper()
	l, e := spread.Reach(n, s, slices.Concat(unitsOf(states, spread.Failed), others), unitsOf(states, spread.Doubtful))
	if e != api.OK {
		t.Fatal(e)
	}
	return l[node].Hi
}

// P8.9: with the set of Blame the node is not reached by then for sure, and with no set that is smaller, or comes before it; there is one exactly if the due is not met.
func TestBlameIsTrue(t *testing.T) {
	r := dice(14)
	late := 0
	for k := range 3000 {
		n, s, states, f := randomCase(r)
		d := randomDue(r, n, s, states)
		set, isLate, e := spread.Blame(n, s, states, f, d)
		met, e2 := spread.Meets(n, s, states, f, []spread.Due{d})
		if e != api.OK || e2 != api.OK || isLate == met[0] {
			t.Fatal(k, n, s, states, f, d, set, isLate, e, met, e2)
		}
		if !isLate {
			continue
		}
		late++
		if len(set) > f || !slices.IsSorted(set) || hiWith(t, n, s, states, set, d.Node) <= d.By {
			t.Error(k, n, s, states, f, d, set)
		}
		for _, unit := range set {
			if states[unit] != spread.Fine {
				t.Error(k, "not fine:", states, set)
			}
		}
		for _, other := range subsets(unitsOf(states, spread.Fine), f) {
			if slices.Equal(other, set) {
				break
			}
			if hiWith(t, n, s, states, other, d.Node) > d.By {
				t.Error(k, n, s, states, f, d, set, other)
			}
		}
	}
	if late < 500 {
		t.Error("few cases:", late)
	}
}

// P8.9: the due is met with f failures exactly if f is at most Strong.
func TestStrongIsTrue(t *testing.T) {
	r := dice(15)
	for k := range 3000 {
		n, s, states, _ := randomCase(r)
		d := randomDue(r, n, s, states)
		most, e := spread.Strong(n, s, states, d)
		if e != api.OK || most < -1 || most > 3 {
			t.Error(k, most, e)
		}
		for f := range 4 {
			if met, e := spread.Meets(n, s, states, f, []spread.Due{d}); e != api.OK || met[0] != (f <= most) {
				t.Error(k, n, s, states, d, f, most, met, e)
			}
		}
	}
}

// P8.9: Needed has a unit exactly if it is fine, and the due is not met with it among those that failed.
func TestNeededIsTrue(t *testing.T) {
	r := dice(16)
	count := 0
	for k := range 3000 {
		n, s, states, _ := randomCase(r)
		d := randomDue(r, n, s, states)
		l, e := spread.Needed(n, s, states, d)
		if e != api.OK || !slices.IsSorted(l) || len(slices.Compact(slices.Clone(l))) != len(l) {
			t.Error(k, l, e)
		}
		for unit, state := range states {
			want := state == spread.Fine && hiWith(t, n, s, states, []int{unit}, d.Node) > d.By
			if slices.Contains(l, unit) != want {
				t.Error(k, n, s, states, d, unit, l)
			}
		}
		count += len(l)
	}
	if count < 500 {
		t.Error("few cases:", count)
	}
}
