package gauge_test

import (
	"math"
	"math/rand/v2"
	"testing"

	"tidewall/api"
	"tidewall/gauge"
	"tidewall/tide"
)

// truth is what is so at a site: when the wave comes to each gauge (Never, if it does not), and how much it raises the water there.
type truth struct {
	s      gauge.Site
	arrive []int
	rise   []float64
}

func between(r *rand.Rand, s api.Span) float64 {
	switch r.IntN(4) {
	case 0:
		return float64(s.Lo)
	case 1:
		return float64(s.Hi)
	}
	return float64(s.Lo) + r.Float64()*float64(s.Hi-s.Lo)
}

// truthOf is a truth in which a wave of a source begins at a time.
func truthOf(r *rand.Rand, s gauge.Site, x api.Source, time int) truth {
	u := truth{s: s}
	bounds := boundsOf(s, x)
	for _, g := range s.Gauges {
		b := bounds[g.Cell]
		arrive, rise := time+integerIn(r, sp(b.Arrive.Lo, min(b.Arrive.Hi, b.Arrive.Lo+1000000))), between(r, b.Rise)
		if b.Arrive.Hi == api.Never && (b.Arrive.Lo == api.Never || r.IntN(2) == 0) {
			arrive, rise = api.Never, 0
		}
		u.arrive, u.rise = append(u.arrive, arrive), append(u.rise, rise)
	}
	return u
}

// calmTruth is a truth in which no wave comes.
func calmTruth(s gauge.Site) truth {
	u := truth{s: s}
	for range s.Gauges {
		u.arrive, u.rise = append(u.arrive, api.Never), append(u.rise, 0)
	}
	return u
}

func tideAt(m tide.Model, time int) float64 {
	level := float64(m.Mean)
	for _, p := range m.Parts {
		angle := 3600*float64(time)/float64(p.Period) - float64(p.Phase)
		level += float64(p.Amp) * math.Cos(angle*math.Pi/1800)
	}
	return level
}

// sway is from -1 to 1, often one of these, and as good as without a rule.
func sway(number, time int) float64 {
	n := (time*7919 + number*104729) % 1000
	return max(-1, min(1, float64(n-500)/400))
}

// level is that at a gauge: it is that of the tide before the wave, and higher by the rise when this comes.
func (u truth) level(number, time int) float64 {
	level := tideAt(u.s.Tide, time)
	switch {
	case time == u.arrive[number]:
		return level + u.rise[number]
	case time > u.arrive[number]:
		return level + u.rise[number]*sway(number, time)
	}
	return level
}

// isNoticed says whether the wave is noticed at a gauge when it comes.
func (u truth) isNoticed(number int) bool {
	return u.arrive[number] != api.Never && u.rise[number] >= float64(u.s.Gauges[number].Notice)
}

// someTime is near the arrival of the wave at a gauge as often as not, and otherwise near a time.
func (u truth) someTime(r *rand.Rand, number, time int) int {
	if u.arrive[number] != api.Never && r.IntN(2) == 0 {
		time = u.arrive[number]
	}
	return time + r.IntN(61) - 30
}

// shownTime is what a clock can show for a time, often no more than this.
func shownTime(r *rand.Rand, g gauge.Gauge, time int) api.Span {
	shown := time - integerIn(r, g.Clock)
	return sp(shown-r.IntN(2)*r.IntN(30), shown+r.IntN(2)*r.IntN(30))
}

// shownLevel is what a gauge can show for a level at a time.
func shownLevel(r *rand.Rand, g gauge.Gauge, level float64, time int) api.Span {
	shown := level - between(r, g.Datum) - between(r, g.Drift)*float64(time-g.Since)/gauge.Day
	// What is lost in the last places must not make it untrue.
	return sp(int(math.Floor(shown-1e-6))-r.IntN(2)*r.IntN(20), int(math.Ceil(shown+1e-6))+r.IntN(2)*r.IntN(20))
}

// lookedAt is a span of times of which a peak can be, with what is shown of it: it lies within the outer time, and the inner time in it.
func lookedAt(r *rand.Rand, g gauge.Gauge, time int) (shown, span api.Span) {
	shown = sp(time-r.IntN(100)-g.Clock.Lo, time+r.IntN(100)-g.Clock.Lo)
	outer, inner := sumOf(shown, g.Clock), sp(shown.Lo+g.Clock.Hi, shown.Hi+g.Clock.Lo)
	if inner.Lo > inner.Hi {
		return shown, within(r, outer)
	}
	return shown, sp(integerIn(r, sp(outer.Lo, inner.Lo)), integerIn(r, sp(inner.Hi, outer.Hi)))
}

// highest returns the greatest level of a span of times, and when it was.
func (u truth) highest(number int, span api.Span) (float64, int) {
	level, time := math.Inf(-1), 0
	for t := span.Lo; t <= span.Hi; t++ {
		if n := u.level(number, t); n > level {
			level, time = n, t
		}
	}
	return level, time
}

// reading is one that is true, near a time, if there is one of a random kind.
func (u truth) reading(r *rand.Rand, near int) (gauge.Reading, bool) {
	number := r.IntN(len(u.s.Gauges))
	g, time := u.s.Gauges[number], u.someTime(r, number, near)
	x := gauge.Reading{Kind: 1 + r.IntN(4), Gauge: number}
	switch x.Kind {
	case gauge.Height:
		x.Time, x.Level = shownTime(r, g, time), shownLevel(r, g, u.level(number, time), time)
	case gauge.Peak:
		shown, span := lookedAt(r, g, time)
		level, when := u.highest(number, span)
		x.Time, x.Level = shown, shownLevel(r, g, level, when)
	case gauge.Came:
		x.Time = shownTime(r, g, u.arrive[number])
		if !u.isNoticed(number) {
			return x, false
		}
	case gauge.Calm:
		x.Time = shownTime(r, g, time)
		if u.isNoticed(number) && u.arrive[number] <= time {
			return x, false
		}
	}
	return x, x.Level.Lo >= -api.MaxLevel && x.Level.Hi <= api.MaxLevel
}

// addReadings makes at most f of the readings of a case others than true ones, and returns which are true.
func addReadings(r *rand.Rand, c *gauge.Case, u truth, near int) []bool {
	c.Readings = c.Readings[:min(len(c.Readings), r.IntN(c.False+1))]
	isTrue := make([]bool, len(c.Readings))
	for range r.IntN(10) {
		if x, ok := u.reading(r, near); ok {
			c.Readings, isTrue = append(c.Readings, x), append(isTrue, true)
		}
	}
	r.Shuffle(len(isTrue), func(i, j int) {
		c.Readings[i], c.Readings[j] = c.Readings[j], c.Readings[i]
		isTrue[i], isTrue[j] = isTrue[j], isTrue[i]
	})
	return isTrue
}

// noneIsFalse checks that no true reading is false for sure, and counts those that are.
func noneIsFalse(t *testing.T, k int, s gauge.Site, c gauge.Case, isTrue []bool) int {
	t.Helper()
	judged, e := gauge.Judge(s, c)
	if e != api.OK || len(judged) != len(isTrue) {
		t.Fatal(k, judged, e)
	}
	n := 0
	for i, is := range isTrue {
		if is && judged[i] == gauge.False {
			t.Error(k, s, c, i, judged)
		}
		if judged[i] == gauge.False {
			n++
		}
	}
	return n
}

// P6.7, G1, G4: a wave that came is left, with its time, if all readings but f are true, and none of these is false for sure.
func TestTruthRemains(t *testing.T) {
	r := dice(40)
	narrowed, thrownOut := 0, 0
	for k := range 5000 {
		s, c := randomCase(r)
		x := source(1+r.IntN(3), r.IntN(len(s.Grid.Ground)), 1+r.IntN(api.MaxClass), sp(0))
		x.Time.Lo = 200000 + r.IntN(1000000)
		x.Time.Hi = x.Time.Lo + r.IntN([]int{1, 100, 100000000}[r.IntN(3)])
		time := integerIn(r, x.Time)
		isTrue := addReadings(r, &c, truthOf(r, s, x, time), time)
		c.Sources = append(c.Sources, x)
		left, _, e := gauge.Left(s, c)
		if e != api.OK || len(left) == 0 {
			t.Fatal(k, s, c, time, left, e)
		}
		last := left[len(left)-1]
		if !spanIn(last.Time, x.Time) || !spanIn(sp(time), last.Time) {
			t.Error(k, s, c, time, last)
		}
		if last != x {
			narrowed++
		}
		x.Time = last.Time
		if last != x {
			t.Error(k, s, c, x, last)
		}
		thrownOut += noneIsFalse(t, k, s, c, isTrue)
	}
	if min(narrowed, thrownOut) < 700 {
		t.Error("few cases:", narrowed, thrownOut)
	}
}

// P6.7, G3: if no wave comes, this remains, if all readings but f are true, and none of these is false for sure.
func TestCalmRemains(t *testing.T) {
	r := dice(41)
	struck, thrownOut := 0, 0
	for k := range 3000 {
		s, c := randomCase(r)
		c.Quiet = true
		isTrue := addReadings(r, &c, calmTruth(s), 200000+r.IntN(1000000))
		left, isCalm, e := gauge.Left(s, c)
		if e != api.OK || !isCalm {
			t.Error(k, s, c, left, e)
		}
		struck += len(c.Sources) - len(left)
		thrownOut += noneIsFalse(t, k, s, c, isTrue)
	}
	if min(struck, thrownOut) < 200 {
		t.Error("few cases:", struck, thrownOut)
	}
}
