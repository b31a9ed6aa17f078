package spread

import (
	"math/rand/v2"
	"slices"
	"testing"

	"tidewall/api"
)

// Sets of units come in their order, each once, also when the units have gaps.
func TestSetsInOrder(t *testing.T) {
	for k, x := range []struct {
		units []int
		size  int
		want  [][]int
	}{
		{nil, 0, [][]int{nil}},
		{nil, 1, nil},
		{[]int{3, 7, 19}, 0, [][]int{nil}},
		{[]int{3, 7, 19}, 1, [][]int{{3}, {7}, {19}}},
		{[]int{3, 7, 19}, 2, [][]int{{3, 7}, {3, 19}, {7, 19}}},
		{[]int{3, 7, 19}, 3, [][]int{{3, 7, 19}}},
		{[]int{3, 7, 19}, 4, nil},
		{[]int{0, 1, 2, 3}, 2, [][]int{{0, 1}, {0, 2}, {0, 3}, {1, 2}, {1, 3}, {2, 3}}},
		{[]int{0, 1, 2, 3, 4}, 3, [][]int{{0, 1, 2}, {0, 1, 3}, {0, 1, 4}, {0, 2, 3}, {0, 2, 4}, {0, 3, 4}, {1, 2, 3}, {1, 2, 4}, {1, 3, 4}, {2, 3, 4}}},
	} {
		var l [][]int
		for s := range sets(x.units, x.size) {
			l = append(l, s.units())
		}
		if !slices.EqualFunc(l, x.want, slices.Equal) {
			t.Error(k, l)
		}
	}
}

// One can stop ranging over sets at any of them.
func TestSetsStop(t *testing.T) {
	units := []int{0, 2, 3, 5, 6}
	for size := range len(units) + 1 {
		all := slices.Collect(sets(units, size))
		for n := 1; n <= len(all); n++ {
			var l []set
			for s := range sets(units, size) {
				l = append(l, s)
				if len(l) == n {
					break
				}
			}
			if !slices.Equal(l, all[:n]) {
				t.Error(size, n, l)
			}
		}
	}
}

// Sets are values: what is put into one is in no other one. A link without a unit is in none.
func TestSetsAreValues(t *testing.T) {
	a := setOf(0, 19)
	b := a.and(setOf(5))
	if !slices.Equal(a.units(), []int{0, 19}) || !slices.Equal(b.units(), []int{0, 5, 19}) || a == b || b != setOf(19, 5, 0, 5) {
		t.Error(a.units(), b.units())
	}
	if !b.has(5) || a.has(5) || b.has(alone) || (set{}).has(0) || setOf() != (set{}) {
		t.Error(a, b)
	}
}

// A queue gives back what comes before all the rest, whatever the order in which it was put in, and in between.
func TestQueue(t *testing.T) {
	r := rand.New(rand.NewPCG(70, 8))
	for k := range 2000 {
		q := queue[int]{before: func(a, b int) bool { return a > b }}
		var want []int
		for range r.IntN(60) {
			if len(want) > 0 && r.IntN(3) == 0 {
				if got := q.take(); got != want[len(want)-1] {
					t.Error(k, got, want)
				}
				want = want[:len(want)-1]
				continue
			}
			item := r.IntN(20)
			q.put(item)
			want = append(want, item)
			slices.Sort(want)
		}
		for i := range want {
			if got := q.take(); got != want[len(want)-1-i] {
				t.Error(k, i, got, want)
			}
		}
		if !q.isEmpty() {
			t.Error(k, q.items)
		}
	}
}

// A warning goes on from each node but once, however often a way comes to it that is better than those before.
func TestEachLinkIsAskedOnce(t *testing.T) {
	n := Net{Nodes: 17}
	for from := range 17 {
		for to := from + 1; to < 17; to++ {
			gap := to - from
			n.Links = append(n.Links, Link{From: from, To: to, Delay: api.Span{Lo: gap * gap, Hi: gap * gap}, Unit: alone})
		}
	}
	asked := 0
	times := courseOf(n, Start{}).times(5, func(l Link) int {
		asked++
		return l.Delay.Lo
	})
	if asked != len(n.Links) || times[16] != 21 {
		t.Error(asked, times)
	}
}
