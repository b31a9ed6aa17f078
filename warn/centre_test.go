package warn_test

import (
	"fmt"
	"math"
	"slices"
	"testing"

	"tidewall/api"
	"tidewall/warn"
)

// The examples of the chapter, whose first bulletin is example 6 of DOC.md.
func TestCentreExamples(t *testing.T) {
	c := west(t)
	x := state(sp(5000000, 7000000), sp(0, 300))
	if l := deadlines(t, c, x); !slices.Equal(l, []int{3200000}) {
		t.Error(l)
	}
	for k, step := range []struct {
		now           int
		x             warn.State
		stage, reason int
		late          bool
	}{
		{1000000, x, warn.Warning, warn.First, false},
		{4000000, state(x.Arrive, sp(0, 60)), warn.Alert, warn.Less, false},
		{4500000, state(x.Arrive, sp(0, 250)), warn.Warning, warn.Raised, true},
		{10600000, state(x.Arrive, sp(0, 250)), warn.None, warn.Passed, false},
	} {
		b := issue(t, c, step.now, step.x)
		want := warn.Bulletin{Centre: "west", Event: "e1", Number: k + 1, Time: step.now, Items: []warn.Item{{Region: "bay", Stage: step.stage, Reason: step.reason, Arrive: step.x.Arrive, Rise: step.x.Rise, Late: step.late}}}
		if !same(b, want) || !slices.Equal(c.Stages(), []int{step.stage}) {
			t.Error(b, want, c.Stages())
		}
	}
	if b, e := c.Issue(10000000, []warn.State{x}); e != api.ErrLate || !isZero(b) {
		t.Error(b, e)
	}
}

// DOC.md's example 6.
func TestExample6(t *testing.T) {
	c, e := warn.New("west", "e1", []warn.Region{{Name: "bay", Heights: [3]int{10, 50, 200}, Leads: [3]int{0, 600000, 1800000}}}, 3600000)
	if e != api.OK {
		t.Fatal(e)
	}
	b := issue(t, c, 1000000, state(sp(5000000, 7000000), sp(0, 300)))
	if len(b.Items) != 1 || b.Items[0].Stage != 3 || b.Items[0].Late {
		t.Error(b)
	}
}

// model is what a centre has to know, as the chapter defines it.
type model struct {
	regions []warn.Region
	tail    int
	stages  []int
	number  int
}

// reached is the greatest stage whose height is at most the highest rise.
func reached(r warn.Region, x warn.State) int {
	for stage := warn.Warning; stage > warn.None; stage-- {
		if r.Heights[stage-1] <= x.Rise.Hi {
			return stage
		}
	}
	return warn.None
}

func passed(x warn.State, now, tail int) bool {
	return x.Arrive.Hi <= api.MaxTime && now-tail >= x.Arrive.Hi
}

// stageAt is the stage of a state at a time.
func stageAt(r warn.Region, x warn.State, now, tail int) int {
	if x.Arrive.Lo > api.MaxTime || passed(x, now, tail) {
		return warn.None
	}
	return reached(r, x)
}

// issue is the next bulletin of the centre `west` of the event `e1`, by definition.
func (m *model) issue(now int, l []warn.State) warn.Bulletin {
	m.number++
	b := warn.Bulletin{Centre: "west", Event: "e1", Number: m.number, Time: now}
	for i, x := range l {
		r := m.regions[i]
		stage, before := stageAt(r, x, now, m.tail), m.stages[i]
		reason := map[bool]int{true: warn.Raised, false: warn.Less}[stage > before]
		if stage == before {
			reason = warn.Kept
		}
		if m.number == 1 {
			reason = warn.First
		}
		if passed(x, now, m.tail) {
			reason = warn.Passed
		}
		late := false
		if stage > before {
			late = now+r.Leads[stage-1] > x.Arrive.Lo
		}
		b.Items = append(b.Items, warn.Item{Region: r.Name, Stage: stage, Reason: reason, Arrive: x.Arrive, Rise: x.Rise, Late: late})
		m.stages[i] = stage
	}
	return b
}

// deadlines are those of the states, by definition.
func (m *model) deadlines(l []warn.State) []int {
	var out []int
	for i, x := range l {
		r := m.regions[i]
		stage := reached(r, x)
		if x.Arrive.Lo > api.MaxTime {
			stage = warn.None
		}
		if stage > m.stages[i] {
			out = append(out, x.Arrive.Lo-r.Leads[stage-1])
		} else {
			out = append(out, api.Never)
		}
	}
	return out
}

// P7.2: what centres issue, their deadlines and their stages, by definition, over small numbers and at the ends of great ones.
func TestIssueByDefinition(t *testing.T) {
	r := dice(1)
	seen := map[string]int{}
	for k := range 10000 {
		greatest := []int{3, 12, 100}[k%3]
		n := r.IntN(5)
		m := model{tail: r.IntN(greatest), stages: make([]int, n)}
		for i := range n {
			heights := []int{1 + r.IntN(greatest), 1 + r.IntN(greatest), 1 + r.IntN(greatest)}
			slices.Sort(heights)
			m.regions = append(m.regions, warn.Region{Name: fmt.Sprint("r", i), Heights: [3]int(heights), Leads: [3]int{r.IntN(greatest), r.IntN(greatest), r.IntN(greatest)}})
		}
		c := centre(t, m.tail, m.regions...)
		now := 0
		for range 1 + r.IntN(8) {
			now += r.IntN(greatest)
			var l []warn.State
			for range n {
				l = append(l, randomState(r, 2*greatest))
			}
			if got, want := deadlines(t, c, l...), m.deadlines(l); !slices.Equal(got, want) {
				t.Error(k, l, got, want)
			}
			before := slices.Clone(m.stages)
			got, want := issue(t, c, now, l...), m.issue(now, l)
			if !same(got, want) {
				t.Error(k, got, want)
			}
			if !slices.Equal(c.Stages(), m.stages) {
				t.Error(k, c.Stages(), m.stages)
			}
			for i, x := range want.Items {
				seen[fmt.Sprint("stage ", x.Stage, " behind ", before[i])]++
				seen[fmt.Sprint("reason ", x.Reason, " stage ", x.Stage, " late ", x.Late)]++
			}
		}
	}
	// All changes from stage to stage; and of First and Raised all stages, late or not, of Kept and Less all stages that are possible, of Passed None.
	if len(seen) != 4*4+7+6+4+3+1 {
		t.Error("other cases than all:", seen)
	}
	for k, n := range seen {
		if n < 20 {
			t.Error("few cases of", k, n)
		}
	}
}

// P7.2: the stage of a state, at the times and the heights at which it changes.
func TestStageOfState(t *testing.T) {
	const tail = 3600000
	comes := sp(5000000, 7000000)
	for k, x := range []struct {
		now           int
		x             warn.State
		stage, reason int
		late          bool
		deadline      int
	}{
		// heights
		{0, state(comes, sp(0, 9)), warn.None, warn.First, false, api.Never},
		{0, state(comes, sp(0, 10)), warn.Notice, warn.First, false, 5000000},
		{0, state(comes, sp(0, 49)), warn.Notice, warn.First, false, 5000000},
		{0, state(comes, sp(0, 50)), warn.Alert, warn.First, false, 4400000},
		{0, state(comes, sp(0, 199)), warn.Alert, warn.First, false, 4400000},
		{0, state(comes, sp(0, 200)), warn.Warning, warn.First, false, 3200000},
		{0, state(comes, sp(1000000)), warn.Warning, warn.First, false, 3200000},
		// the lead
		{3200000, state(comes, sp(0, 200)), warn.Warning, warn.First, false, 3200000},
		{3200001, state(comes, sp(0, 200)), warn.Warning, warn.First, true, 3200000},
		{4400000, state(comes, sp(0, 50)), warn.Alert, warn.First, false, 4400000},
		{4400001, state(comes, sp(0, 50)), warn.Alert, warn.First, true, 4400000},
		{5000000, state(comes, sp(0, 10)), warn.Notice, warn.First, false, 5000000},
		{5000001, state(comes, sp(0, 10)), warn.Notice, warn.First, true, 5000000},
		{0, state(sp(0, 1), sp(0, 300)), warn.Warning, warn.First, true, -1800000},
		// what has passed, and what can still come
		{7000000 + tail - 1, state(comes, sp(0, 300)), warn.Warning, warn.First, true, 3200000},
		{7000000 + tail, state(comes, sp(0, 300)), warn.None, warn.Passed, false, 3200000},
		{7000000 + tail, state(comes, sp(0, 9)), warn.None, warn.Passed, false, api.Never},
		{1000000000, state(sp(5, api.Never), sp(0, 300)), warn.Warning, warn.First, true, 5 - 1800000},
		{1000000000, state(sp(1000000000), sp(0, 300)), warn.Warning, warn.First, true, 1000000000 - 1800000},
		// nothing can come
		{1000000000, none(), warn.None, warn.First, false, api.Never},
		{0, state(sp(api.Never), sp(1000000)), warn.None, warn.First, false, api.Never},
	} {
		c := centre(t, tail, bay())
		if l := deadlines(t, c, x.x); l[0] != x.deadline {
			t.Error(k, l, x.deadline)
		}
		i := issue(t, c, x.now, x.x).Items[0]
		if i.Stage != x.stage || i.Reason != x.reason || i.Late != x.late {
			t.Error(k, i, x)
		}
	}
}

// P7.2: of equal heights the greatest stage counts, and its lead.
func TestEqualHeights(t *testing.T) {
	c := centre(t, 0, warn.Region{Name: "a", Heights: [3]int{5, 5, 5}, Leads: [3]int{9, 99, 999}}, warn.Region{Name: "b", Heights: [3]int{5, 5, 6}, Leads: [3]int{9, 99, 999}})
	x := state(sp(1000), sp(5))
	if l := deadlines(t, c, x, x); !slices.Equal(l, []int{1, 901}) {
		t.Error(l)
	}
	issue(t, c, 2, x, x)
	if !slices.Equal(c.Stages(), []int{warn.Warning, warn.Alert}) {
		t.Error(c.Stages())
	}
}

// P7.2: the greatest numbers of all.
func TestGreatNumbers(t *testing.T) {
	great := warn.Region{Name: "a", Heights: [3]int{100000, 100000, 100000}, Leads: [3]int{100000000, 100000000, 100000000}}
	c := centre(t, 100000000, great)
	for k, x := range []struct {
		x        warn.State
		deadline int
	}{
		{state(sp(1000000000), sp(1000000)), 900000000},
		{state(sp(0, api.Never), sp(100000, 1000000)), -100000000},
		{state(sp(0, api.Never), sp(0, 99999)), api.Never},
	} {
		if l := deadlines(t, c, x.x); l[0] != x.deadline {
			t.Error(k, l)
		}
	}
	b := issue(t, c, 1000000000, state(sp(900000001), sp(1000000)))
	if x := b.Items[0]; x.Stage != warn.Warning || !x.Late {
		t.Error(x)
	}
	b = issue(t, c, 1000000000, state(sp(900000000), sp(1000000)))
	if x := b.Items[0]; x.Stage != warn.None || x.Reason != warn.Passed {
		t.Error(x)
	}
}

// P7.2: a stage in force is not late, and has no deadline, until it was lowered.
func TestInForce(t *testing.T) {
	c := west(t)
	high, low := state(sp(5000000, 7000000), sp(0, 200)), state(sp(5000000, 7000000), sp(0, 50))
	for k, x := range []struct {
		now       int
		x         warn.State
		reason    int
		late      bool
		deadlines []int // of the high and the low state
	}{
		{0, low, warn.First, false, []int{3200000, 4400000}},
		{4400001, low, warn.Kept, false, []int{3200000, api.Never}},
		{4400001, high, warn.Raised, true, []int{3200000, api.Never}},
		{4400002, high, warn.Kept, false, []int{api.Never, api.Never}},
		{4400003, low, warn.Less, false, []int{api.Never, api.Never}},
		{4400003, none(), warn.Less, false, []int{3200000, api.Never}},
		{4400003, none(), warn.Kept, false, []int{3200000, 4400000}},
		{4400003, low, warn.Raised, true, []int{3200000, 4400000}},
		{10600000, low, warn.Passed, false, []int{3200000, api.Never}},
		{10600000, low, warn.Passed, false, []int{3200000, 4400000}},
		{10600000, state(sp(5000000, 7000001), sp(0, 50)), warn.Raised, true, []int{3200000, 4400000}},
	} {
		if l := append(deadlines(t, c, high), deadlines(t, c, low)...); !slices.Equal(l, x.deadlines) {
			t.Error(k, l)
		}
		if i := issue(t, c, x.now, x.x).Items[0]; i.Reason != x.reason || i.Late != x.late {
			t.Error(k, i)
		}
	}
}

// expectSame checks that a centre does and says what another one does.
func expectSame(t *testing.T, k any, c, want *warn.Centre, now int, l ...warn.State) {
	t.Helper()
	c, want = c.Copy(), want.Copy()
	a, e := c.Issue(now, l)
	b, f := want.Issue(now, l)
	if !slices.Equal(c.Stages(), want.Stages()) || e != f || !same(a, b) {
		t.Error(k, a, b, e, f)
	}
}

// P7.2, R1, R2: the errors of Issue and Deadlines, in their order; with an error nothing has changed.
func TestIssueErrors(t *testing.T) {
	two := []warn.Region{bay(), region("sea")}
	fair := state(sp(5000000, 7000000), sp(0, 60))
	c := centre(t, 3600000, two...)
	issue(t, c, 1000, fair, fair)
	before := c.Copy()
	check := func(k any, now int, l []warn.State, want, wantDeadlines api.Errno) {
		t.Helper()
		if b, e := c.Issue(now, l); e != want || !isZero(b) {
			t.Error("Issue", k, now, b, e, want)
		}
		out, e := c.Deadlines(l)
		if e != wantDeadlines || e != api.OK && len(out) > 0 {
			t.Error("Deadlines", k, out, e, wantDeadlines)
		}
		if !slices.Equal(c.Stages(), []int{warn.Alert, warn.Alert}) {
			t.Error(k, c.Stages())
		}
	}
	shapes := [][]warn.State{nil, {}, {fair}, {fair, fair, fair}, make([]warn.State, 64), {{Arrive: sp(1, 0)}}, {{Arrive: sp(-1)}, fair, fair}}
	for k, l := range shapes {
		check(k, 1000, l, api.ErrShape, api.ErrShape)
		check(k, 999, l, api.ErrLate, api.ErrShape)
		check(k, -1, l, api.ErrRange, api.ErrShape)
	}
	for k, bad := range badStates() {
		for _, l := range [][]warn.State{{bad, fair}, {fair, bad}, {bad, bad}} {
			check(k, 1000, l, api.ErrRange, api.ErrRange)
			check(k, 0, l, api.ErrLate, api.ErrRange)
		}
	}
	for _, now := range append(badNumbers(0, 1000000000), api.Never) {
		check("now", now, []warn.State{fair, fair}, api.ErrRange, api.OK)
		check("now", now, nil, api.ErrRange, api.ErrShape)
		check("now", now, []warn.State{fair, {Rise: sp(-1)}}, api.ErrRange, api.ErrRange)
	}
	for _, now := range []int{0, 1, 999} {
		check("late", now, []warn.State{fair, fair}, api.ErrLate, api.OK)
	}
	for _, now := range []int{1000, 1001, 1000000000} {
		expectSame(t, now, c, before, now, fair, none())
	}
	if b := issue(t, c, 1000, fair, fair); b.Number != 2 || b.Time != 1000 {
		t.Error(b)
	}
}

// P7.2: all states that are as stated are taken.
func TestGoodStates(t *testing.T) {
	c := west(t)
	for k, x := range goodStates() {
		b, e := c.Issue(0, []warn.State{x})
		if e != api.OK || b.Number != k+1 || b.Items[0].Arrive != x.Arrive || b.Items[0].Rise != x.Rise {
			t.Error(k, b, e)
		}
		if _, e := c.Deadlines([]warn.State{x}); e != api.OK {
			t.Error(k, e)
		}
	}
}

// P7.2: times can be the same, and the first one can be any.
func TestTimes(t *testing.T) {
	for _, first := range []int{0, 5, 1000000000} {
		c := west(t)
		for k := range 3 {
			if b := issue(t, c, first, none()); b.Time != first || b.Number != k+1 {
				t.Error(b)
			}
		}
		if _, e := c.Issue(first-1, []warn.State{none()}); e == api.OK {
			t.Error("a time that descends", first)
		}
		if first < api.MaxTime {
			issue(t, c, first+1, none())
		}
	}
}

// P7.2, R7: a centre issues a million bulletins; then there is no other one, whatever the states are.
func TestManyBulletins(t *testing.T) {
	c := centre(t, 0)
	for k := range 1000000 {
		b, e := c.Issue(k/2, nil)
		if e != api.OK || b.Number != k+1 {
			t.Fatal(k, b, e)
		}
	}
	for k, x := range []struct {
		now int
		l   []warn.State
		e   api.Errno
	}{
		{1000000, nil, api.ErrMany}, {499999, nil, api.ErrMany}, {1000000, make([]warn.State, 1), api.ErrMany}, {1000000, badStates(), api.ErrMany},
		{499998, nil, api.ErrLate}, {-1, nil, api.ErrRange}, {1000000001, badStates(), api.ErrRange},
	} {
		for _, c := range []*warn.Centre{c, c.Copy()} {
			if b, e := c.Issue(x.now, x.l); e != x.e || !isZero(b) {
				t.Error(k, b, e, x.e)
			}
		}
	}
	if l, e := c.Deadlines(nil); e != api.OK || len(l) != 0 || len(c.Stages()) != 0 {
		t.Error(l, e)
	}
	if l, e := c.Deadlines(make([]warn.State, 1)); e != api.ErrShape || len(l) != 0 {
		t.Error(l, e)
	}
}

// P7.2: the greatest centre.
func TestGreatestCentre(t *testing.T) {
	c := centre(t, 0, regions(64)...)
	l := slices.Repeat([]warn.State{none()}, 64)
	l[63] = state(sp(5), sp(60))
	b := issue(t, c, 3, l...)
	for i, x := range b.Items {
		want := warn.Item{Region: fmt.Sprint("r", i), Reason: warn.First, Arrive: sp(api.Never)}
		if i == 63 {
			want = warn.Item{Region: "r63", Stage: warn.Alert, Reason: warn.First, Arrive: sp(5), Rise: sp(60), Late: true}
		}
		if x != want {
			t.Error(i, x)
		}
	}
	if len(b.Items) != 64 || c.Stages()[63] != warn.Alert {
		t.Error(b, c.Stages())
	}
}

// P7.2: what a copy issues does not change the other centre, nor the other way round.
func TestCopyIsIndependent(t *testing.T) {
	high, low := state(sp(5000000, 7000000), sp(0, 300)), state(sp(5000000, 7000000), sp(0, 20))
	c := west(t)
	issue(t, c, 1000, low)
	x, y := c.Copy(), c.Copy()
	if x == c || x == y {
		t.Error("the same centre")
	}
	issue(t, c, 2000, high)
	if b := issue(t, x, 1000, none()); b.Number != 2 || b.Items[0].Reason != warn.Less || b.Centre != "west" || b.Event != "e1" {
		t.Error(b)
	}
	if c.Stages()[0] != warn.Warning || x.Stages()[0] != warn.None || y.Stages()[0] != warn.Notice {
		t.Error(c.Stages(), x.Stages(), y.Stages())
	}
	if b := issue(t, y, 1500, high); b.Number != 2 || b.Items[0].Reason != warn.Raised {
		t.Error(b)
	}
	if b := issue(t, c, 2000, high); b.Number != 3 || b.Items[0].Reason != warn.Kept {
		t.Error(b)
	}
	if b := issue(t, x, 1000, high); b.Number != 3 || b.Items[0].Reason != warn.Raised {
		t.Error(b)
	}
	fresh := west(t).Copy()
	if b := issue(t, fresh, 0, state(sp(5000000, 7000000), sp(300))); b.Number != 1 || b.Items[0].Reason != warn.First {
		t.Error(b)
	}
	// The tail is copied too.
	if b := issue(t, x, 10599999, high); b.Items[0].Reason != warn.Kept {
		t.Error(b)
	}
	if b := issue(t, x, 10600000, high); b.Items[0].Reason != warn.Passed {
		t.Error(b)
	}
}

// A centre that is assigned as a value does not change the other one.
func TestAssignedCentres(t *testing.T) {
	c := west(t)
	issue(t, c, 0, none())
	d := *c
	issue(t, c, 0, state(sp(5000000, 7000000), sp(0, 300)))
	if d.Stages()[0] != warn.None || c.Stages()[0] != warn.Warning {
		t.Error(c.Stages(), d.Stages())
	}
}

// R3: a centre that no function made.
func TestNoCentre(t *testing.T) {
	failed, _ := warn.New("West", "e1", nil, 0)
	for k, c := range []*warn.Centre{nil, {}, new(warn.Centre), failed, (*warn.Centre)(nil).Copy(), new(warn.Centre).Copy()} {
		for _, now := range []int{0, -1, math.MaxInt} {
			for _, l := range [][]warn.State{nil, {}, {none()}, badStates()} {
				if b, e := c.Issue(now, l); e != api.ErrNil || !isZero(b) {
					t.Error(k, b, e)
				}
				if out, e := c.Deadlines(l); e != api.ErrNil || len(out) != 0 {
					t.Error(k, out, e)
				}
			}
		}
		if c.Stages() != nil || c.Copy() != nil {
			t.Error(k, c.Stages(), c.Copy())
		}
	}
}

// R4: a centre keeps none of the memory that it got or gave away.
func TestCentreMemory(t *testing.T) {
	l := []warn.Region{bay(), region("sea"), region("lake")}
	c := centre(t, 3600000, l[:2]...)
	d := c.Copy()
	high := state(sp(5000000, 7000000), sp(0, 300))
	states := []warn.State{high, none(), high}
	for range 2 {
		clear(l)
		for k, c := range []*warn.Centre{c, d} {
			b := issue(t, c, 7, states[:2]...)
			out := deadlines(t, c, high, high)
			stages := c.Stages()
			if !slices.Equal(states, []warn.State{high, none(), high}) {
				t.Error(states)
			}
			if b.Items[0].Region != "bay" || b.Items[1].Region != "sea" || !slices.Equal(out, []int{api.Never, 3200000}) || !slices.Equal(stages, []int{warn.Warning, warn.None}) {
				t.Error(k, b, out, stages)
			}
			clear(b.Items)
			clear(out)
			clear(stages)
			_ = append(b.Items[:0], warn.Item{Stage: 9}, warn.Item{Stage: 9})
			_ = append(stages[:0], 7, 7, 7)
			if l := c.Stages(); !slices.Equal(l, []int{warn.Warning, warn.None}) {
				t.Error(k, l)
			}
		}
	}
}
