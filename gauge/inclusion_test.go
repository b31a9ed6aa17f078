package gauge_test

import (
	"math/rand/v2"
	"slices"
	"testing"

	"tidewall/api"
	"tidewall/gauge"
	"tidewall/wave"
)

// remaining is what remains of a case: of each source by its index, and whether no wave does.
type remaining struct {
	spans  map[int]api.Span
	isCalm bool
}

// remainsOf looks at each source alone, as what is left in a list does not say of which source it is.
func remainsOf(t *testing.T, s gauge.Site, c gauge.Case) remaining {
	t.Helper()
	m := remaining{spans: map[int]api.Span{}}
	for i, x := range c.Sources {
		one := c
		one.Sources = []api.Source{x}
		l, isCalm, e := gauge.Left(s, one)
		if e != api.OK || len(l) > 1 {
			t.Fatal(s, c, l, e)
		}
		if len(l) == 1 {
			m.spans[i] = l[0].Time
		}
		m.isCalm = isCalm
	}
	return m
}

// isWithin says whether no more remains than in another case.
func (m remaining) isWithin(other remaining) bool {
	for i, s := range m.spans {
		if o, ok := other.spans[i]; !ok || !spanIn(s, o) {
			return false
		}
	}
	return !m.isCalm || other.isCalm
}

func judge(t *testing.T, s gauge.Site, c gauge.Case) []int {
	t.Helper()
	l, e := gauge.Judge(s, c)
	if e != api.OK || len(l) != len(c.Readings) {
		t.Fatal(s, c, l, e)
	}
	return l
}

// staysKnown says whether no reading that was known to be true, or false, is open now.
func staysKnown(before, now []int) bool {
	for i, n := range before {
		if n != gauge.Open && now[i] == gauge.Open {
			return false
		}
	}
	return true
}

// fewerReadings are some of those of a case.
func fewerReadings(r *rand.Rand, c gauge.Case) gauge.Case {
	c.Readings = slices.DeleteFunc(slices.Clone(c.Readings), func(gauge.Reading) bool { return r.IntN(3) == 0 })
	return c
}

// P6.8, G1: with more readings, or a lesser f, what is left lies within what was left; and with a lesser f no reading becomes open.
func TestSetsShrink(t *testing.T) {
	r := dice(50)
	shrunk, known := 0, 0
	for k := range 1500 {
		s, c := randomCase(r)
		all := remainsOf(t, s, c)
		for i, span := range all.spans {
			if !spanIn(span, c.Sources[i].Time) {
				t.Error("sources", k, s, c, all)
			}
		}
		if all.isCalm && !c.Quiet {
			t.Error("quiet", k, s, c)
		}
		fewer := fewerReadings(r, c)
		if before := remainsOf(t, s, fewer); !all.isWithin(before) {
			t.Error("readings", k, s, c, fewer.Readings)
		} else if !before.isWithin(all) {
			shrunk++
		}
		greater := c
		greater.False = min(gauge.MaxFalse, c.False+r.IntN(5))
		if !all.isWithin(remainsOf(t, s, greater)) {
			t.Error("f", k, s, c, greater.False)
		}
		before, now := judge(t, s, greater), judge(t, s, c)
		if !staysKnown(before, now) {
			t.Error("judged", k, s, c, greater.False, before, now)
		}
		if slices.Contains(before, gauge.Open) && !slices.Contains(now, gauge.Open) {
			known++
		}
	}
	if min(shrunk, known) < 70 {
		t.Error("few cases:", shrunk, known)
	}
}

// G1, G4: with fewer possibilities no reading becomes open either, and none that was false for sure is not.
func TestFewerPossibilities(t *testing.T) {
	r := dice(51)
	thrownOut := 0
	for k := range 1500 {
		s, c := randomCase(r)
		fewer := c
		fewer.Quiet = c.Quiet && r.IntN(2) == 0
		fewer.Sources = nil
		for _, x := range c.Sources {
			if r.IntN(3) > 0 {
				x.Time = within(r, x.Time)
				fewer.Sources = append(fewer.Sources, x)
			}
		}
		before, now := judge(t, s, c), judge(t, s, fewer)
		if !staysKnown(before, now) {
			t.Error(k, s, c, fewer, before, now)
		}
		for i, n := range before {
			if n == gauge.False && now[i] != gauge.False {
				t.Error(k, s, c, fewer, before, now)
			}
			if n != gauge.False && now[i] == gauge.False {
				thrownOut++
			}
		}
	}
	if thrownOut < 350 {
		t.Error("few cases:", thrownOut)
	}
}

// P6.8: the order of the readings does not matter.
func TestOrderOfReadings(t *testing.T) {
	r := dice(52)
	for k := range 1500 {
		s, c := randomCase(r)
		want, wantCalm, _ := gauge.Left(s, c)
		judged, least := judge(t, s, c), callAgree(s, c)
		other := c
		other.Readings = nil
		order := r.Perm(len(c.Readings))
		for _, i := range order {
			other.Readings = append(other.Readings, c.Readings[i])
		}
		if l, isCalm, e := gauge.Left(s, other); e != api.OK || !slices.Equal(l, want) || isCalm != wantCalm {
			t.Error("Left", k, s, c, order, l, isCalm, e)
		}
		if callAgree(s, other) != least {
			t.Error("Agree", k, s, c, order)
		}
		for n, got := range judge(t, s, other) {
			if got != judged[order[n]] {
				t.Error("Judge", k, s, c, order)
			}
		}
	}
}

// The functions that follow return what is known better than their argument.

func narrowerGrid(r *rand.Rand, s gauge.Site) gauge.Site {
	s.Grid.Ground = slices.Clone(s.Grid.Ground)
	for i, x := range s.Grid.Ground {
		s.Grid.Ground[i] = within(r, x)
	}
	return s
}

func narrowerWaves(r *rand.Rand, s gauge.Site) gauge.Site {
	s.Wave = wave.Model{Keep: within(r, s.Wave.Keep), Land: within(r, s.Wave.Land), Loss: within(r, s.Wave.Loss)}
	return s
}

func narrowerGauges(r *rand.Rand, s gauge.Site) gauge.Site {
	s.Gauges = slices.Clone(s.Gauges)
	for i, g := range s.Gauges {
		s.Gauges[i].Clock, s.Gauges[i].Datum, s.Gauges[i].Drift = within(r, g.Clock), within(r, g.Datum), within(r, g.Drift)
	}
	return s
}

func narrowerSources(r *rand.Rand, c gauge.Case) gauge.Case {
	c.Sources = slices.Clone(c.Sources)
	for i, x := range c.Sources {
		c.Sources[i].Time = within(r, x.Time)
	}
	return c
}

func narrowerLevels(r *rand.Rand, c gauge.Case) gauge.Case {
	c.Readings = slices.Clone(c.Readings)
	for i, x := range c.Readings {
		c.Readings[i].Level = within(r, x.Level)
	}
	return c
}

// narrowerTimes leaves those of peaks, which are the times that were looked at.
func narrowerTimes(r *rand.Rand, c gauge.Case) gauge.Case {
	c.Readings = slices.Clone(c.Readings)
	for i, x := range c.Readings {
		if x.Kind != gauge.Peak {
			c.Readings[i].Time = within(r, x.Time)
		}
	}
	return c
}

// P6.9, G1: what is left of what is known better lies within what is left of what was known: whatever of it is known better, and all of it.
func TestKnownBetter(t *testing.T) {
	r := dice(53)
	var shrunk [7]int
	for k := range 1500 {
		s, c := randomCase(r)
		all := remainsOf(t, s, c)
		better := remainsOf(t, narrowerGauges(r, narrowerWaves(r, narrowerGrid(r, s))), narrowerTimes(r, narrowerLevels(r, narrowerSources(r, c))))
		for i, m := range []remaining{
			remainsOf(t, narrowerGrid(r, s), c),
			remainsOf(t, narrowerWaves(r, s), c),
			remainsOf(t, narrowerGauges(r, s), c),
			remainsOf(t, s, narrowerSources(r, c)),
			remainsOf(t, s, narrowerLevels(r, c)),
			remainsOf(t, s, narrowerTimes(r, c)),
			better,
		} {
			if !m.isWithin(all) {
				t.Error(k, i, s, c, m, all)
			}
			if !all.isWithin(m) {
				shrunk[i]++
			}
		}
	}
	if slices.Min(shrunk[:]) < 15 {
		t.Error("few cases:", shrunk)
	}
}
