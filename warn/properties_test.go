package warn_test

import (
	"math/rand/v2"
	"slices"
	"testing"

	"tidewall/api"
	"tidewall/warn"
)

// smallRegion is a region with small numbers.
func smallRegion(r *rand.Rand, name string, limit int) warn.Region {
	heights := []int{1 + r.IntN(limit), 1 + r.IntN(limit), 1 + r.IntN(limit)}
	slices.Sort(heights)
	return warn.Region{Name: name, Heights: [3]int(heights), Leads: [3]int{r.IntN(limit), r.IntN(limit), r.IntN(limit)}}
}

// narrower is a state within another one, often the same one.
func narrower(r *rand.Rand, x warn.State) warn.State {
	if r.IntN(3) == 0 {
		return x
	}
	x.Rise = randomSpan(r, x.Rise)
	hi := x.Arrive.Hi
	switch {
	case x.Arrive.Lo == api.Never:
	case hi != api.Never:
		x.Arrive = randomSpan(r, x.Arrive)
	case r.IntN(4) == 0:
		x.Arrive.Lo = api.Never
	default:
		x.Arrive = randomSpan(r, sp(x.Arrive.Lo, x.Arrive.Lo+20))
		if r.IntN(2) == 0 {
			x.Arrive.Hi = api.Never
		}
	}
	return x
}

// stateWith is a state that has some truth in it: when water comes, and how high.
func stateWith(r *rand.Rand, come, rise, limit int) warn.State {
	around := func(n int) api.Span {
		return sp(max(0, n-r.IntN(1+r.IntN(limit))), n+r.IntN(1+r.IntN(limit)))
	}
	if come == api.Never {
		lo := r.IntN(limit)
		if r.IntN(2) == 0 {
			lo = api.Never
		}
		return state(sp(lo, api.Never), around(rise))
	}
	x := state(around(come), around(rise))
	if r.IntN(4) == 0 {
		x.Arrive.Hi = api.Never
	}
	return x
}

// P7.5, G2: what is issued by the deadline is not late; behind the deadline what is raised is late, and would be so in all later bulletins.
func TestInTime(t *testing.T) {
	r := dice(10)
	counts := map[string]int{}
	for k := range 5000 {
		limit := []int{5, 30}[k%2]
		c := centre(t, r.IntN(limit), smallRegion(r, "r", limit), smallRegion(r, "s", limit))
		now := 0
		for range 6 {
			now += r.IntN(limit)
			l := []warn.State{randomState(r, 2*limit), randomState(r, 2*limit)}
			last := deadlines(t, c, l...)
			before := c.Copy()
			b := issue(t, c, now, l...)
			for i, x := range b.Items {
				isRaised := x.Stage > before.Stages()[i]
				if now <= last[i] && x.Late || x.Late && !isRaised || isRaised && now > last[i] && !x.Late {
					t.Error(k, now, last, b)
				}
				if !x.Late {
					counts["in time"]++
					continue
				}
				counts["late"]++
				for later := now; later < now+3*limit; later++ {
					y := issue(t, before.Copy(), later, l...).Items[i]
					if !y.Late && y.Reason != warn.Passed {
						t.Error(k, later, last, b)
					}
				}
			}
		}
	}
	if counts["late"] < 1000 || counts["in time"] < 1000 {
		t.Error("few cases:", counts)
	}
}

// P7.5, G2: a deadline is the last time of all at which the item is not late, or there is none.
func TestDeadlineIsLast(t *testing.T) {
	r := dice(11)
	found := 0
	for k := range 3000 {
		c := centre(t, 0, smallRegion(r, "r", 8))
		x := state(sp(r.IntN(20), api.Never), sp(0, r.IntN(12)))
		last := deadlines(t, c, x)[0]
		for now := range 30 {
			item := issue(t, c.Copy(), now, x).Items[0]
			if item.Late != (now > last) {
				t.Error(k, now, last, item)
			}
			if item.Late {
				found++
			}
		}
	}
	if found < 1000 {
		t.Error("few cases:", found)
	}
}

// P7.6, G1, G3: as long as the truth is within all states, the stage in force is at least that of the truth, from the first bulletin on, until the water has come, and the tail after that.
func TestTruth(t *testing.T) {
	r := dice(12)
	held, withdrawn := 0, 0
	for k := range 5000 {
		limit := []int{4, 20}[k%2]
		tail := r.IntN(limit)
		region := smallRegion(r, "r", limit)
		c := centre(t, tail, region)
		come, rise := r.IntN(2*limit), r.IntN(2*limit)
		if r.IntN(5) == 0 {
			come = api.Never
		}
		truth := state(sp(come), sp(rise))
		isIssued := false
		for now := range 5 * limit {
			for r.IntN(3) == 0 {
				before := c.Stages()[0]
				issue(t, c, now, stateWith(r, come, rise, limit))
				isIssued = true
				if c.Stages()[0] == warn.None && before > warn.None {
					withdrawn++
				}
			}
			if !isIssued {
				continue
			}
			want := stageAt(region, truth, now, tail)
			if c.Stages()[0] < want {
				t.Error(k, now, c.Stages(), want, truth)
			}
			if come != api.Never && now < come+tail && reached(region, truth) != want {
				t.Error("the truth has no stage", k, now)
			}
			if want > warn.None {
				held++
			}
		}
	}
	if held < 1000 || withdrawn < 1000 {
		t.Error("few cases:", held, withdrawn)
	}
}

// P7.7, G3: if states only become narrower, stages are raised by the first bulletin alone, and become less only for a reason.
func TestNarrowerStates(t *testing.T) {
	r := dice(13)
	reasons := map[string]int{}
	for k := range 5000 {
		limit := []int{4, 20}[k%2]
		tail := r.IntN(limit)
		region := smallRegion(r, "r", limit)
		c := centre(t, tail, region)
		x := state(sp(r.IntN(limit), 2*limit), sp(0, 2*limit))
		if r.IntN(3) == 0 {
			x.Arrive.Hi = api.Never
		}
		now := 0
		issue(t, c, now, x)
		for range 8 {
			now += r.IntN(limit)
			x = narrower(r, x)
			before := c.Stages()[0]
			item := issue(t, c, now, x).Items[0]
			if item.Stage > before || item.Late || item.Reason == warn.Raised {
				t.Error(k, "raised:", item)
			}
			if item.Stage == before {
				continue
			}
			switch {
			case x.Rise.Hi < region.Heights[before-1]:
				reasons["no height"]++
			case x.Arrive.Lo == api.Never:
				reasons["no water"]++
			case x.Arrive.Hi != api.Never && now >= x.Arrive.Hi+tail:
				reasons["passed"]++
			default:
				t.Error(k, "less:", item, before, region)
			}
		}
	}
	if reasons["no height"] < 100 || reasons["no water"] < 100 || reasons["passed"] < 100 {
		t.Error("few cases:", reasons)
	}
}

// G1: a narrower state never has a higher stage at the same time, nor an earlier deadline of the same stage.
func TestInclusion(t *testing.T) {
	r := dice(14)
	lower := 0
	for k := range 5000 {
		region := smallRegion(r, "r", 10)
		c := centre(t, r.IntN(10), region)
		x := randomState(r, 30)
		y := narrower(r, x)
		wide, narrow := issue(t, c.Copy(), 25, x).Items[0], issue(t, c.Copy(), 25, y).Items[0]
		if narrow.Stage > wide.Stage || wide.Reason == warn.Passed && narrow.Reason != warn.Passed {
			t.Error(k, narrow, wide)
		}
		if narrow.Stage < wide.Stage {
			lower++
		}
		if reached(region, x) == reached(region, y) && deadlines(t, c, y)[0] < deadlines(t, c, x)[0] {
			t.Error(k, x, y)
		}
	}
	if lower < 500 {
		t.Error("few cases:", lower)
	}
}
