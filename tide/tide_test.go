package tide_test

import (
	"math"
	"math/big"
	"math/rand/v2"
	"slices"
	"testing"

	"tidewall/api"
	"tidewall/tide"
)

const hour = 3600000

// exampleM is the model M of the chapter's examples.
func exampleM() tide.Model {
	return tide.Model{Mean: 10, Parts: []tide.Part{{Amp: 100, Period: hour}, {Amp: 50, Period: 2 * hour, Phase: 900}}}
}

// withParts is a model with a number of valid parts.
func withParts(n int) tide.Model {
	return tide.Model{Parts: slices.Repeat([]tide.Part{{Amp: 1, Period: 1000}}, n)}
}

func same(a, b tide.Model) bool { return a.Mean == b.Mean && slices.Equal(a.Parts, b.Parts) }

func isZero(m tide.Model) bool { return same(m, tide.Model{}) }

func randomModel(r *rand.Rand, parts int) tide.Model {
	m := tide.Model{Mean: r.IntN(2*tide.MaxMean+1) - tide.MaxMean}
	for range parts {
		period := 1 + r.IntN([]int{10, 5000, hour, api.MaxTime}[r.IntN(4)])
		m.Parts = append(m.Parts, tide.Part{Amp: r.IntN(tide.MaxAmp + 1), Period: period, Phase: r.IntN(tide.Turn)})
	}
	return m
}

// randomTimes is a span of times, of any of some lengths.
func randomTimes(r *rand.Rand) api.Span {
	lo := r.IntN([]int{100, hour, api.MaxTime + 1}[r.IntN(3)])
	return sp(lo, min(api.MaxTime, lo+r.IntN([]int{1, 100, hour, api.MaxTime}[r.IntN(4)])))
}

// rounded divides, rounding down or up.
func rounded(n, divisor int, up bool) int {
	q, rest := new(big.Int).DivMod(big.NewInt(int64(n)), big.NewInt(int64(divisor)), new(big.Int))
	if up && rest.Sign() > 0 {
		q.Add(q, big.NewInt(1))
	}
	return int(q.Int64())
}

// levelBounds are the level bounds of a model, by their definition.
func levelBounds(turn []api.Span, m tide.Model, t api.Span) api.Span {
	var sum api.Span
	for _, p := range m.Parts {
		c := spanBounds(turn, sp(rounded(3600*t.Lo, p.Period, false)-p.Phase, rounded(3600*t.Hi, p.Period, true)-p.Phase))
		sum.Lo += p.Amp * c.Lo
		sum.Hi += p.Amp * c.Hi
	}
	return sp(m.Mean+rounded(sum.Lo, 65536, false), m.Mean+rounded(sum.Hi, 65536, true))
}

// trueLevel is the true level at a real time, but for the rounding of floats.
func trueLevel(m tide.Model, time float64) float64 {
	level := float64(m.Mean)
	for _, p := range m.Parts {
		turns := math.Mod(time, float64(p.Period)) / float64(p.Period)
		level += float64(p.Amp) * realCosine(3600*turns-float64(p.Phase)) / 65536
	}
	return level
}

// isAt says whether a real level is within a span, but for the rounding of floats.
func isAt(level float64, s api.Span) bool {
	return level >= float64(s.Lo)-1e-6 && level <= float64(s.Hi)+1e-6
}

// badModels are models that are not valid, each with its error.
func badModels() []struct {
	m tide.Model
	e api.Errno
} {
	with := func(mean, amp, period, phase int) tide.Model {
		return tide.Model{Mean: mean, Parts: []tide.Part{{Amp: 1, Period: 1}, {Amp: amp, Period: period, Phase: phase}}}
	}
	meanAndMany := withParts(17)
	meanAndMany.Mean = 10001
	manyAndPart := withParts(17)
	manyAndPart.Parts[0].Amp = -1
	return []struct {
		m tide.Model
		e api.Errno
	}{
		{tide.Model{Mean: 10001}, api.ErrRange},
		{tide.Model{Mean: -10001}, api.ErrRange},
		{tide.Model{Mean: math.MaxInt}, api.ErrRange},
		{tide.Model{Mean: math.MinInt}, api.ErrRange},
		{meanAndMany, api.ErrRange},
		{manyAndPart, api.ErrMany},
		{withParts(17), api.ErrMany},
		{withParts(100000), api.ErrMany},
		{with(0, -1, 1, 0), api.ErrRange},
		{with(0, 1001, 1, 0), api.ErrRange},
		{with(0, math.MinInt, 1, 0), api.ErrRange},
		{with(0, math.MaxInt, 1, 0), api.ErrRange},
		{with(0, 1, 0, 0), api.ErrRange},
		{with(0, 0, 0, 0), api.ErrRange},
		{with(0, 1, -1, 0), api.ErrRange},
		{with(0, 1, 1000000001, 0), api.ErrRange},
		{with(0, 1, math.MinInt, 0), api.ErrRange},
		{with(0, 1, math.MaxInt, 0), api.ErrRange},
		{with(0, 1, 1, -1), api.ErrRange},
		{with(0, 1, 1, 3600), api.ErrRange},
		{with(0, 1, 1, math.MinInt), api.ErrRange},
		{with(0, 1, 1, math.MaxInt), api.ErrRange},
	}
}

// P2.2: Check, and that each function with a model has its error first, with zero values beside it (R1, R2).
func TestCheckComesFirst(t *testing.T) {
	wrong := sp(1, 0)
	for k, bad := range badModels() {
		if e := tide.Check(bad.m); e != bad.e {
			t.Error("Check", k, e, bad.e)
		}
		if s, e := tide.Level(bad.m, wrong); e != bad.e || s != sp(0) {
			t.Error("Level", k, s, e)
		}
		if s, e := tide.Range(bad.m); e != bad.e || s != sp(0) {
			t.Error("Range", k, s, e)
		}
		if s, e := tide.Peak(bad.m, wrong, 0); e != bad.e || s != sp(0) {
			t.Error("Peak", k, s, e)
		}
		if l, e := tide.Windows(bad.m, wrong, 0, 20001); e != bad.e || len(l) != 0 {
			t.Error("Windows", k, l, e)
		}
		if m, e := tide.Join(bad.m, tide.Model{Mean: 10001}); e != bad.e || !isZero(m) {
			t.Error("Join of a", k, m, e)
		}
		if m, e := tide.Join(tide.Model{Mean: 10000}, bad.m); e != bad.e || !isZero(m) {
			t.Error("Join of b", k, m, e)
		}
	}
	// Of two models with errors, that of a comes first.
	if _, e := tide.Join(withParts(17), tide.Model{Mean: 10001}); e != api.ErrMany {
		t.Error(e)
	}
	if _, e := tide.Join(tide.Model{Mean: 10001}, withParts(17)); e != api.ErrRange {
		t.Error(e)
	}
}

// P2.2, R7: the greatest and the least models are valid.
func TestCheckLimits(t *testing.T) {
	most := tide.Model{Mean: 10000, Parts: slices.Repeat([]tide.Part{{Amp: 1000, Period: 1000000000, Phase: 3599}}, 16)}
	for k, m := range []tide.Model{{}, {Mean: -10000}, {Parts: []tide.Part{{Period: 1}}}, withParts(16), most, exampleM()} {
		if e := tide.Check(m); e != api.OK {
			t.Error(k, e)
		}
		if _, e := tide.Level(m, sp(0, api.MaxTime)); e != api.OK {
			t.Error(k, e)
		}
	}
	if s, e := tide.Range(most); e != api.OK || s != sp(-6000, 26000) {
		t.Error(s, e)
	}
}

// badTimes are spans of times that are not valid.
func badTimes() []api.Span {
	return []api.Span{
		sp(1, 0), sp(api.MaxTime, 0), sp(-1, 0), sp(-1), sp(0, api.MaxTime+1), sp(api.MaxTime + 1), sp(-1, api.MaxTime+1),
		sp(math.MinInt, math.MaxInt), sp(math.MaxInt, math.MinInt), sp(0, math.MaxInt), sp(math.MinInt, 0), sp(math.MinInt), sp(math.MaxInt), sp(1, -1),
	}
}

// P2.2: the times of Level.
func TestLevelErrors(t *testing.T) {
	for k, times := range badTimes() {
		if s, e := tide.Level(exampleM(), times); e != api.ErrRange || s != sp(0) {
			t.Error(k, s, e)
		}
	}
	for k, times := range []api.Span{sp(0), sp(api.MaxTime), sp(0, api.MaxTime)} {
		if _, e := tide.Level(exampleM(), times); e != api.OK {
			t.Error(k, e)
		}
	}
}

// P2.2: Level, by its definition.
func TestLevelBounds(t *testing.T) {
	r := dice(10)
	turn := turnOfBounds()
	for k := range 3000 {
		m := randomModel(r, r.IntN(tide.MaxParts+1))
		times := randomTimes(r)
		if s, e := tide.Level(m, times); e != api.OK || s != levelBounds(turn, m, times) {
			t.Error(k, m, times, s, e, levelBounds(turn, m, times))
		}
	}
}

// P2.2: short periods have angles beyond those that Cos takes.
func TestLevelOfManyTurns(t *testing.T) {
	turn := turnOfBounds()
	for period := 1; period <= 9; period++ {
		m := tide.Model{Mean: -7, Parts: []tide.Part{{Amp: 1000, Period: period, Phase: 100 * period}, {Amp: 999, Period: period + 1}}}
		for time := api.MaxTime - 20; time <= api.MaxTime; time++ {
			for _, times := range []api.Span{sp(time), sp(time, min(api.MaxTime, time+1)), sp(time, api.MaxTime)} {
				if s, e := tide.Level(m, times); e != api.OK || s != levelBounds(turn, m, times) {
					t.Error(period, times, s, e, levelBounds(turn, m, times))
				}
			}
		}
	}
	if s, e := tide.Level(tide.Model{Parts: []tide.Part{{Amp: 3, Period: 1}}}, sp(api.MaxTime)); e != api.OK || s != sp(3) {
		t.Error(s, e)
	}
}

// The examples of the chapter.
func TestExamples(t *testing.T) {
	for k, x := range []struct{ times, want api.Span }{
		{sp(0), sp(110)}, {sp(hour / 2), sp(-40)}, {sp(hour / 4), sp(45, 46)}, {sp(0, hour), sp(-90, 160)},
	} {
		if s, e := tide.Level(exampleM(), x.times); e != api.OK || s != x.want {
			t.Error(k, s, e)
		}
	}
	if s, e := tide.Range(exampleM()); e != api.OK || s != sp(-140, 160) {
		t.Error(s, e)
	}
	if m, e := tide.Join(exampleM(), exampleM()); e != api.OK || m.Mean != 20 || len(m.Parts) != 4 {
		t.Error(m, e)
	}
}

// P2.2: bounds that are no integers are rounded outward, on both sides of zero, and only once for all parts.
func TestLevelRounding(t *testing.T) {
	small := func(phases ...int) tide.Model {
		var m tide.Model
		for _, phase := range phases {
			m.Parts = append(m.Parts, tide.Part{Amp: 1, Period: hour, Phase: phase})
		}
		return m
	}
	for k, x := range []struct {
		m    tide.Model
		want api.Span
	}{
		{small(600), sp(0, 1)}, {small(1200), sp(-1, 0)}, {small(600, 600), sp(1)}, {small(1200, 1200), sp(-1)}, {small(600, 1200), sp(0)},
		{small(600, 600, 600), sp(1, 2)}, {small(1200, 1200, 1200), sp(-2, -1)}, {small(900, 2700), sp(0)}, {small(899), sp(0, 1)}, {small(901), sp(-1, 0)},
		{small(899, 901), sp(-1, 1)}, {small(0, 600, 1800), sp(0, 1)}, {small(), sp(0)},
	} {
		if s, e := tide.Level(x.m, sp(0)); e != api.OK || s != x.want {
			t.Error(k, s, e)
		}
	}
}

// P2.2: times between whole angles have the bounds of the whole angles around them.
func TestLevelBetweenAngles(t *testing.T) {
	m := tide.Model{Parts: []tide.Part{{Amp: 1000, Period: 36000}}}
	for k, x := range []struct{ times, want api.Span }{
		{sp(0), sp(1000)}, {sp(1), sp(999, 1000)}, {sp(9000), sp(0)}, {sp(9001), sp(-2, 0)}, {sp(8999), sp(0, 2)}, {sp(9010), sp(-2, -1)},
		{sp(18000), sp(-1000)}, {sp(17999, 18001), sp(-1000, -999)}, {sp(35999), sp(999, 1000)}, {sp(36000), sp(1000)}, {sp(6000, 6000), sp(500)}, {sp(6000, 30000), sp(-1000, 500)},
	} {
		if s, e := tide.Level(m, x.times); e != api.OK || s != x.want {
			t.Error(k, s, e)
		}
	}
}

// P2.6, G1: true levels are within the bounds of all spans that have their time, and these within each other, and within Range.
func TestLevelsWithin(t *testing.T) {
	r := dice(11)
	for k := range 3000 {
		m := randomModel(r, r.IntN(tide.MaxParts+1))
		outer := randomTimes(r)
		inner := within(r, outer.Lo, outer.Hi)
		all, _ := tide.Range(m)
		a, _ := tide.Level(m, outer)
		b, _ := tide.Level(m, inner)
		if !spanIn(b, a) || !spanIn(a, all) || b.Lo > b.Hi {
			t.Error(k, m, outer, inner, a, b, all)
		}
		for range 5 {
			time := float64(inner.Lo) + r.Float64()*float64(inner.Hi-inner.Lo)
			if !isAt(trueLevel(m, time), b) {
				t.Error(k, m, inner, time, trueLevel(m, time), b)
			}
		}
	}
}

// P2.2: Range is Mean less, and Mean plus, the sum of all amplitudes.
func TestRange(t *testing.T) {
	r := dice(12)
	for range 200 {
		m := randomModel(r, r.IntN(tide.MaxParts+1))
		want := sp(m.Mean)
		for _, p := range m.Parts {
			want.Lo -= p.Amp
			want.Hi += p.Amp
		}
		if s, e := tide.Range(m); e != api.OK || s != want {
			t.Error(m, s, e)
		}
	}
}

// P2.4: the Mean and the parts of what is joined, in order.
func TestJoin(t *testing.T) {
	r := dice(13)
	for k := range 300 {
		a, b := randomModel(r, r.IntN(9)), randomModel(r, r.IntN(9))
		m, e := tide.Join(a, b)
		if sum := a.Mean + b.Mean; sum < -10000 || sum > 10000 {
			if e != api.ErrRange || !isZero(m) {
				t.Error(k, m, e)
			}
			continue
		}
		if e != api.OK || m.Mean != a.Mean+b.Mean || !slices.Equal(m.Parts, append(slices.Clone(a.Parts), b.Parts...)) {
			t.Error(k, a, b, m, e)
		}
	}
}

// P2.4, R7: sums of Means, and numbers of parts, that are just right, and that are too great, in the order of their errors.
func TestJoinErrors(t *testing.T) {
	with := func(mean, parts int) tide.Model {
		m := withParts(parts)
		m.Mean = mean
		return m
	}
	for k, x := range []struct {
		a, b tide.Model
		e    api.Errno
	}{
		{with(10000, 0), with(0, 0), api.OK},
		{with(10000, 0), with(1, 0), api.ErrRange},
		{with(-10000, 0), with(-1, 0), api.ErrRange},
		{with(10000, 0), with(10000, 0), api.ErrRange},
		{with(-10000, 0), with(10000, 0), api.OK},
		{with(-5000, 3), with(-5000, 4), api.OK},
		{with(0, 16), with(0, 0), api.OK},
		{with(0, 8), with(0, 8), api.OK},
		{with(0, 8), with(0, 9), api.ErrMany},
		{with(0, 16), with(0, 16), api.ErrMany},
		{with(10000, 16), with(1, 1), api.ErrRange},
	} {
		m, e := tide.Join(x.a, x.b)
		if e != x.e || e != api.OK && !isZero(m) {
			t.Error(k, m, e)
		}
	}
}

// P2.8: the bounds of a joined model lie within the sums of those of both, and not further within than by 1 at each end.
func TestLevelOfJoined(t *testing.T) {
	r := dice(14)
	strict := 0
	for k := range 3000 {
		a, b := randomModel(r, r.IntN(9)), randomModel(r, r.IntN(9))
		a.Mean /= 2
		b.Mean /= 2
		times := randomTimes(r)
		both, e := tide.Join(a, b)
		if e != api.OK {
			t.Fatal(k, e)
		}
		x, _ := tide.Level(a, times)
		y, _ := tide.Level(b, times)
		s, e := tide.Level(both, times)
		sum := sp(x.Lo+y.Lo, x.Hi+y.Hi)
		if e != api.OK || !spanIn(s, sum) || !spanIn(sp(sum.Lo+1, sum.Hi-1), s) {
			t.Error(k, a, b, times, s, sum)
		}
		if s != sum {
			strict++
		}
	}
	if strict == 0 {
		t.Error("no bounds were further within")
	}
}

// P2.8: the order of the parts does not matter, and a model without parts has the level Mean.
func TestLevelOfParts(t *testing.T) {
	r := dice(15)
	for k := range 500 {
		m := randomModel(r, r.IntN(tide.MaxParts+1))
		times := randomTimes(r)
		want, _ := tide.Level(m, times)
		r.Shuffle(len(m.Parts), func(i, j int) { m.Parts[i], m.Parts[j] = m.Parts[j], m.Parts[i] })
		if s, e := tide.Level(m, times); e != api.OK || s != want {
			t.Error(k, m, s, e, want)
		}
		m.Parts = nil
		if s, e := tide.Level(m, times); e != api.OK || s != sp(m.Mean) {
			t.Error(k, m, s, e)
		}
		if s, e := tide.Range(m); e != api.OK || s != sp(m.Mean) {
			t.Error(k, m, s, e)
		}
	}
}
