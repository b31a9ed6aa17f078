package gauge_test

import (
	"math/big"
	"math/rand/v2"
	"slices"
	"testing"

	"tidewall/api"
	"tidewall/gauge"
	"tidewall/tide"
	"tidewall/wave"
)

// P6.2: clocks, datums and drifts, by hand. In a day a drift of 10 is 10 cm; in 43,200,000 ms half of it.
func TestShownByHand(t *testing.T) {
	const day = 86400000
	for k, x := range []struct {
		g           gauge.Gauge
		time, level api.Span
		wantTime    api.Span
		wantLevel   api.Span
	}{
		{gauge.Gauge{}, sp(5, 9), sp(-3, 4), sp(5, 9), sp(-3, 4)},
		{gauge.Gauge{Clock: sp(-5, 7), Datum: sp(-20, 30)}, sp(5, 9), sp(-3, 4), sp(0, 16), sp(-23, 34)},
		{gauge.Gauge{Clock: sp(100)}, sp(-100, -99), sp(0), sp(0, 1), sp(0)},
		{gauge.Gauge{Drift: sp(10)}, sp(day), sp(0), sp(day), sp(10)},
		{gauge.Gauge{Drift: sp(10)}, sp(day - 1), sp(0), sp(day - 1), sp(9, 10)},
		{gauge.Gauge{Drift: sp(10)}, sp(day + 1), sp(0), sp(day + 1), sp(10, 11)},
		{gauge.Gauge{Drift: sp(-10)}, sp(day), sp(0), sp(day), sp(-10)},
		{gauge.Gauge{Drift: sp(-10)}, sp(day + 1), sp(0), sp(day + 1), sp(-11, -10)},
		{gauge.Gauge{Drift: sp(-10)}, sp(day - 1), sp(0), sp(day - 1), sp(-10, -9)},
		{gauge.Gauge{Drift: sp(-10, 20)}, sp(day, 2*day), sp(0), sp(day, 2*day), sp(-20, 40)},
		{gauge.Gauge{Drift: sp(10, 20)}, sp(day, 2*day), sp(0), sp(day, 2*day), sp(10, 40)},
		{gauge.Gauge{Drift: sp(-20, -10)}, sp(day, 2*day), sp(0), sp(day, 2*day), sp(-40, -10)},
		{gauge.Gauge{Drift: sp(10, 20), Since: 3 * day}, sp(day, 2*day), sp(0), sp(day, 2*day), sp(-40, -10)},
		{gauge.Gauge{Drift: sp(-20, -10), Since: 3 * day}, sp(day, 2*day), sp(0), sp(day, 2*day), sp(10, 40)},
		{gauge.Gauge{Drift: sp(10, 20), Since: 2 * day}, sp(day, 3*day), sp(0), sp(day, 3*day), sp(-20, 20)},
		{gauge.Gauge{Drift: sp(10), Since: day / 2}, sp(0), sp(7), sp(0), sp(2)},
		{gauge.Gauge{Drift: sp(1), Since: 1}, sp(0), sp(0), sp(0), sp(-1, 0)},
		{gauge.Gauge{Drift: sp(1), Since: 1}, sp(1), sp(0), sp(1), sp(0)},
		// The drift is that of the outer time, not of the shown one.
		{gauge.Gauge{Drift: sp(10), Clock: sp(0, day)}, sp(day), sp(0), sp(day, 2*day), sp(10, 20)},
	} {
		s := siteWith(func(g *gauge.Gauge) { *g = x.g })
		for kind := gauge.Height; kind <= gauge.Calm; kind++ {
			time, level, e := gauge.Shown(s, gauge.Reading{Kind: kind, Time: x.time, Level: x.level})
			if e != api.OK || time != x.wantTime || level != x.wantLevel {
				t.Error(k, kind, time, level, e)
			}
		}
	}
}

// drift is the product of a drift and a time by a day, rounded down or up.
func drift(up bool, drift, time int) int {
	q, rest := new(big.Int).DivMod(big.NewInt(int64(drift*time)), big.NewInt(gauge.Day), new(big.Int))
	if up && rest.Sign() > 0 {
		q.Add(q, big.NewInt(1))
	}
	return int(q.Int64())
}

// sumOf is the span of the sums of what is in some spans.
func sumOf(l ...api.Span) api.Span {
	sum := sp(0)
	for _, s := range l {
		sum = sp(sum.Lo+s.Lo, sum.Hi+s.Hi)
	}
	return sum
}

func outerByDefinition(s gauge.Site, r gauge.Reading) api.Span {
	return sumOf(r.Time, s.Gauges[r.Gauge].Clock)
}

func levelByDefinition(s gauge.Site, r gauge.Reading) api.Span {
	g, outer := s.Gauges[r.Gauge], outerByDefinition(s, r)
	least, greatest := 1<<40, -1<<40
	for _, d := range []int{g.Drift.Lo, g.Drift.Hi} {
		for _, time := range []int{outer.Lo, outer.Hi} {
			least, greatest = min(least, drift(false, d, time-g.Since)), max(greatest, drift(true, d, time-g.Since))
		}
	}
	return sumOf(r.Level, g.Datum, sp(least, greatest))
}

// P6.2: by definition, with all gauges and times.
func TestShownByDefinition(t *testing.T) {
	r := dice(10)
	valid := 0
	for k := range 20000 {
		s := siteWith(func(g *gauge.Gauge) {
			*g = gauge.Gauge{Clock: within(r, sp(-100000000, 100000000)), Datum: within(r, sp(-10000, 10000)), Drift: within(r, sp(-1000, 1000)), Since: r.IntN(api.MaxTime + 1)}
		})
		x := gauge.Reading{Kind: 1 + r.IntN(4), Time: within(r, sp(-100000000, api.MaxTime+100000000)), Level: within(r, sp(-20000, 20000))}
		outer := outerByDefinition(s, x)
		if !spanIn(outer, sp(0, api.MaxTime)) {
			expect(t, k, api.ErrRange, callShown(s, x))
			continue
		}
		valid++
		if time, level, e := gauge.Shown(s, x); e != api.OK || time != outer || level != levelByDefinition(s, x) {
			t.Error(k, s.Gauges, x, time, level, e)
		}
	}
	if valid < 5000 {
		t.Error("few cases:", valid)
	}
}

// badReadings are readings that are wrong at the site of the examples, each with its error. Its second gauge can be wrong by its clock.
func badReadings() map[gauge.Reading]api.Errno {
	l := map[gauge.Reading]api.Errno{}
	with := func(e api.Errno, change func(*gauge.Reading)) {
		for kind := gauge.Height; kind <= gauge.Calm; kind++ {
			x := gauge.Reading{Kind: kind, Gauge: 1, Time: sp(1000)}
			change(&x)
			l[x] = e
		}
	}
	for _, kind := range []int{0, -1, 5, -1 << 63, 1<<63 - 1} {
		with(api.ErrArg, func(x *gauge.Reading) { x.Kind = kind })
		with(api.ErrArg, func(x *gauge.Reading) { *x = gauge.Reading{kind, 2, sp(1, 0), sp(1, 0)} })
	}
	for _, number := range []int{-1, 2, -1 << 63, 1<<63 - 1} {
		with(api.ErrNone, func(x *gauge.Reading) { x.Gauge = number })
		with(api.ErrNone, func(x *gauge.Reading) { x.Gauge, x.Time, x.Level = number, sp(1, 0), sp(1, 0) })
	}
	for _, bad := range append(badSpans(0, 1000000000), badSpans(-100000000, 1100000000)...) {
		with(api.ErrRange, func(x *gauge.Reading) { x.Time = bad })
	}
	for _, bad := range badSpans(-20000, 20000) {
		with(api.ErrRange, func(x *gauge.Reading) { x.Level = bad })
	}
	return l
}

// P6.2: the outer time lies within 0 to MaxTime, what a clock shows need not.
func TestClocksOfReadings(t *testing.T) {
	for k, x := range []struct {
		clock, time api.Span
		want        api.Errno
	}{
		{sp(100), sp(-100), api.OK}, {sp(100), sp(-101), api.ErrRange}, {sp(99, 100), sp(-100), api.ErrRange}, {sp(100, 101), sp(-100), api.OK},
		{sp(-100), sp(100), api.OK}, {sp(-100), sp(99), api.ErrRange}, {sp(-100), sp(99, 200), api.ErrRange},
		{sp(-7), sp(1000000007), api.OK}, {sp(-7), sp(1000000008), api.ErrRange}, {sp(-7), sp(0, 1000000007), api.ErrRange}, {sp(-7, -6), sp(1000000007), api.ErrRange}, {sp(-8, -7), sp(7, 1000000007), api.ErrRange}, {sp(-8, -7), sp(8, 1000000007), api.OK},
		{sp(100000000), sp(-100000000), api.OK}, {sp(100000000), sp(-100000001), api.ErrRange}, {sp(100000000), sp(-100000000, 900000000), api.OK}, {sp(100000000), sp(900000001), api.ErrRange},
		{sp(-100000000), sp(1100000000), api.OK}, {sp(-100000000), sp(1100000001), api.ErrRange}, {sp(-100000000), sp(100000000, 1100000000), api.OK}, {sp(-100000000), sp(99999999), api.ErrRange},
		{sp(0), sp(0, 1000000000), api.OK}, {sp(0), sp(-1), api.ErrRange}, {sp(0), sp(1000000001), api.ErrRange},
	} {
		s := siteWith(func(g *gauge.Gauge) { g.Clock = x.clock })
		reading := calm(0, x.time)
		expect(t, k, x.want, callShown(s, reading), callAllows(s, exampleX(), reading, 0), callLeft(s, gauge.Case{Readings: []gauge.Reading{reading}}))
	}
}

// badSources are sources that are wrong at the site of the examples, each with its error.
func badSources() map[api.Source]api.Errno {
	l := map[api.Source]api.Errno{}
	for _, kind := range []int{0, 4, -1, -1 << 63, 1<<63 - 1} {
		l[source(kind, 0, 1, sp(0))] = api.ErrArg
		l[source(kind, 4, 11, sp(1, 0))] = api.ErrArg
	}
	for _, cell := range []int{-1, 4, -1 << 63, 1<<63 - 1} {
		l[source(api.Quake, cell, 1, sp(0))] = api.ErrNone
		l[source(api.Volcano, cell, 0, sp(1, 0))] = api.ErrNone
	}
	for _, class := range []int{0, -1, 11, -1 << 63, 1<<63 - 1} {
		l[source(api.Slide, 3, class, sp(0))] = api.ErrRange
	}
	for _, bad := range badSpans(0, 1000000000) {
		l[source(api.Quake, 3, 10, bad)] = api.ErrRange
	}
	return l
}

// P6.2, P6.3, R8: the error of a reading, then that of a source, then that of the time.
func TestAllowsErrors(t *testing.T) {
	fair := came(1, sp(20000))
	odd := []int{-1, 1000000001, -1 << 63, 1<<63 - 1}
	for x, e := range badReadings() {
		expect(t, x, e, callShown(exampleS(), x), callAllows(exampleS(), exampleX(), x, 0), callAllows(exampleS(), exampleX(), x, -1))
		for bad := range badSources() {
			expect(t, x, e, callAllows(exampleS(), bad, x, 0))
		}
	}
	for x, e := range badSources() {
		expect(t, x, e, callAllows(exampleS(), x, fair, 0))
		for _, time := range odd {
			expect(t, x, e, callAllows(exampleS(), x, fair, time))
		}
	}
	for _, time := range odd {
		expect(t, time, api.ErrRange, callAllows(exampleS(), exampleX(), fair, time))
	}
	for _, time := range []int{0, 1000000000} {
		expect(t, time, api.OK, callAllows(exampleS(), exampleX(), fair, time))
	}
	for k, x := range []gauge.Reading{{gauge.Came, 0, sp(0), sp(-20000)}, {gauge.Calm, 1, sp(1000000000), sp(20000)}, {gauge.Height, 1, sp(0, 1000000000), sp(-20000, 20000)}} {
		expect(t, k, api.OK, callShown(exampleS(), x), callAllows(exampleS(), exampleX(), x, 0))
	}
}

// allowed are the times at which a reading allows the source of the examples, of all around those at which this can change.
func allowed(t *testing.T, s gauge.Site, x gauge.Reading) []api.Span {
	t.Helper()
	var l []api.Span
	isOpen := false
	for time := range 60 {
		is, e := gauge.Allows(s, source(api.Slide, 0, 7, sp(5)), x, time)
		if e != api.OK {
			t.Fatal(x, time, e)
		}
		switch {
		case is && isOpen:
			l[len(l)-1].Hi = time
		case is:
			l = append(l, sp(time))
		}
		isOpen = is
	}
	return l
}

// P6.3: each kind of readings at the edges of what it allows. The wave comes to the first gauge 15963 to 15964 behind its beginning, with a rise of 127 to 257; of the times 0 to 59 those are shown at which it is allowed. The time of the source does not matter.
func TestEdgesOfReadings(t *testing.T) {
	const first = 15963
	all, none := []api.Span{sp(0, 59)}, []api.Span(nil)
	level := func(s api.Span, x gauge.Reading) gauge.Reading {
		x.Level = s
		return x
	}
	for k, x := range []struct {
		g    gauge.Gauge
		x    gauge.Reading
		want []api.Span
	}{
		{gauge.Gauge{}, height(0, 0, sp(first)), all},
		{gauge.Gauge{}, height(0, 100, sp(first+20)), []api.Span{sp(0, 20)}},
		{gauge.Gauge{}, height(0, -100, sp(first+10, first+20)), []api.Span{sp(0, 20)}},
		{gauge.Gauge{}, height(0, 257, sp(first+20)), []api.Span{sp(0, 20)}},
		{gauge.Gauge{}, height(0, -257, sp(first+20)), []api.Span{sp(0, 20)}},
		{gauge.Gauge{}, height(0, 258, sp(first+20)), none},
		{gauge.Gauge{}, height(0, -258, sp(first+20)), none},
		{gauge.Gauge{}, level(sp(257, 900), height(0, 0, sp(first+20))), []api.Span{sp(0, 20)}},
		{gauge.Gauge{}, level(sp(-900, -257), height(0, 0, sp(first+20))), []api.Span{sp(0, 20)}},
		{gauge.Gauge{}, level(sp(-1, 0), height(0, 0, sp(first+20))), all},
		{gauge.Gauge{Clock: sp(-3, 5), Datum: sp(-1, 2)}, height(0, 100, sp(first+20)), []api.Span{sp(0, 25)}},
		{gauge.Gauge{Datum: sp(-1, 2)}, height(0, 1, sp(first+20)), all},
		{gauge.Gauge{Datum: sp(-1, 2)}, height(0, 2, sp(first+20)), []api.Span{sp(0, 20)}},
		{gauge.Gauge{Datum: sp(-1, 2)}, height(0, -2, sp(first+20)), all},
		{gauge.Gauge{Datum: sp(-1, 2)}, height(0, -3, sp(first+20)), []api.Span{sp(0, 20)}},
		{gauge.Gauge{Drift: sp(1000), Since: 86400000}, height(0, 1000, sp(first+20)), all},
		{gauge.Gauge{Drift: sp(1000), Since: 86400000}, height(0, 0, sp(first+20)), none},

		{gauge.Gauge{}, peak(0, 0, sp(first+10, first+40)), []api.Span{sp(0, 9), sp(40, 59)}},
		{gauge.Gauge{}, peak(0, 126, sp(first+10, first+40)), []api.Span{sp(0, 9), sp(40)}},
		{gauge.Gauge{}, peak(0, 127, sp(first+10, first+40)), []api.Span{sp(0, 40)}},
		{gauge.Gauge{}, peak(0, 257, sp(first+10, first+40)), []api.Span{sp(0, 40)}},
		{gauge.Gauge{}, peak(0, 258, sp(first+10, first+40)), none},
		{gauge.Gauge{}, peak(0, -257, sp(first+10, first+40)), []api.Span{sp(0, 9), sp(40)}},
		{gauge.Gauge{}, peak(0, -258, sp(first+10, first+40)), none},
		{gauge.Gauge{Clock: sp(-3, 5)}, peak(0, 0, sp(first+10, first+40)), []api.Span{sp(0, 14), sp(37, 59)}},
		{gauge.Gauge{Clock: sp(-3, 5)}, peak(0, 100, sp(first+10, first+40)), []api.Span{sp(0, 14), sp(37, 45)}},
		{gauge.Gauge{Clock: sp(-3, 5)}, peak(0, 200, sp(first+10, first+40)), []api.Span{sp(0, 45)}},
		// The inner time is just long enough for the arrival, too short, and empty.
		{gauge.Gauge{Clock: sp(-3, 5)}, peak(0, 0, sp(first+10, first+19)), []api.Span{sp(0, 14), sp(16, 59)}},
		{gauge.Gauge{Clock: sp(-3, 5)}, peak(0, 0, sp(first+10, first+18)), all},
		{gauge.Gauge{Clock: sp(-3, 5)}, peak(0, 0, sp(first+10, first+17)), all},
		{gauge.Gauge{Clock: sp(-3, 5)}, peak(0, 100, sp(first+10, first+17)), []api.Span{sp(0, 22)}},
		{gauge.Gauge{Clock: sp(-3, 5)}, peak(0, 100, sp(first+20)), []api.Span{sp(0, 25)}},

		{gauge.Gauge{}, came(0, sp(first+20)), []api.Span{sp(19, 20)}},
		{gauge.Gauge{}, came(0, sp(first+20, first+30)), []api.Span{sp(19, 30)}},
		{gauge.Gauge{Clock: sp(-3, 5)}, came(0, sp(first+20)), []api.Span{sp(16, 25)}},
		{gauge.Gauge{Notice: 257}, came(0, sp(first+20)), []api.Span{sp(19, 20)}},
		{gauge.Gauge{Notice: 258}, came(0, sp(first+20)), none},

		{gauge.Gauge{}, calm(0, sp(first+20)), []api.Span{sp(20, 59)}},
		{gauge.Gauge{}, calm(0, sp(first+20, first+30)), []api.Span{sp(20, 59)}},
		{gauge.Gauge{Clock: sp(-3, 5)}, calm(0, sp(first+20)), []api.Span{sp(17, 59)}},
		{gauge.Gauge{Notice: 127}, calm(0, sp(first+20)), []api.Span{sp(20, 59)}},
		{gauge.Gauge{Notice: 128}, calm(0, sp(first+20)), all},
	} {
		x.g.Cell = 1
		s := siteWith(func(g *gauge.Gauge) { *g = x.g })
		if l := allowed(t, s, x.x); !slices.Equal(l, x.want) {
			t.Error(k, x.g, x.x, l, x.want)
		}
	}
}

// P6.3: levels are compared with those of the tide in the outer time; and of kinds that do not have one the level does not matter.
func TestTideOfReadings(t *testing.T) {
	s := exampleS()
	s.Tide = tide.Model{Mean: 50, Parts: []tide.Part{{Amp: 100, Period: 40000}}}
	late := source(api.Slide, 0, 7, sp(0))
	for k, x := range []struct {
		x    gauge.Reading
		want bool
	}{
		// The wave has not come yet.
		{height(0, 150, sp(0)), true}, {height(0, 149, sp(0)), false}, {height(0, -50, sp(20000)), true}, {height(0, -51, sp(20000)), false}, {height(0, 50, sp(10000)), true}, {height(0, 50, sp(0, 20000)), true}, {height(0, 151, sp(0, 20000)), false},
		{peak(0, 150, sp(0)), true}, {peak(0, -50, sp(0, 20000)), true}, {peak(0, -51, sp(0, 20000)), false},
		{gauge.Reading{Kind: gauge.Calm, Time: sp(20000), Level: sp(19999)}, true}, {gauge.Reading{Kind: gauge.Came, Time: sp(20000), Level: sp(50)}, false},
	} {
		if is, e := gauge.Allows(s, late, x.x, 30000); e != api.OK || is != x.want {
			t.Error(k, x, is, e)
		}
	}
	// It comes at 25963 at the earliest, and raises the water by up to 257 cm, or to something more.
	bounds := boundsOf(s, late)[1]
	for k, x := range []struct {
		x    gauge.Reading
		want bool
	}{
		{height(0, 50+bounds.Rise.Hi, sp(30000)), true}, {height(0, 50+bounds.Rise.Hi+1, sp(30000)), false}, {height(0, 50-bounds.Rise.Hi, sp(30000)), true}, {height(0, 50-bounds.Rise.Hi-1, sp(30000)), false},
		{peak(0, -50+bounds.Rise.Lo, sp(20000, 30000)), true}, {peak(0, -50+bounds.Rise.Lo-1, sp(20000, 30000)), false}, {peak(0, 50+bounds.Rise.Hi, sp(20000, 30000)), true}, {peak(0, 50+bounds.Rise.Hi+1, sp(20000, 30000)), false},
	} {
		if is, e := gauge.Allows(s, late, x.x, 10000); e != api.OK || is != x.want {
			t.Error(k, x, bounds, is, e)
		}
	}
}

// P6.3: a source whose wave never comes is looked at like any other.
func TestWaveThatNeverComes(t *testing.T) {
	s := exampleS()
	s.Grid.Ground = []api.Span{sp(-1000), sp(300), sp(-1000), sp(300)}
	s.Gauges = []gauge.Gauge{{Cell: 2}}
	for k, x := range []struct {
		x    gauge.Reading
		want bool
	}{
		{height(0, 0, sp(1000000000)), true}, {height(0, 1, sp(1000000000)), false}, {peak(0, 0, sp(0, 1000000000)), true}, {peak(0, 1, sp(0, 1000000000)), false}, {came(0, sp(0, 1000000000)), false}, {calm(0, sp(1000000000)), true},
	} {
		for _, time := range []int{0, 1000000000} {
			if is, e := gauge.Allows(s, exampleX(), x.x, time); e != api.OK || is != x.want {
				t.Error(k, x, time, is, e)
			}
		}
		// No wave is allowed likewise.
		if l, isCalm, e := gauge.Left(s, gauge.Case{Quiet: true, Sources: []api.Source{exampleX()}, Readings: []gauge.Reading{x.x}}); e != api.OK || isCalm != x.want || len(l) == 1 != x.want {
			t.Error(k, x, l, isCalm, e)
		}
	}
}

// P6.3: a wave of which it is not known whether it comes can have come, and need not have.
func TestWaveThatMayCome(t *testing.T) {
	s := exampleS()
	s.Grid.Ground = []api.Span{sp(-1000), sp(-1000, 1000), sp(-1000), sp(300)}
	s.Gauges = []gauge.Gauge{{Cell: 2}}
	bound := boundsOf(s, exampleX())[2]
	if bound.Arrive.Lo == api.Never || bound.Arrive.Hi != api.Never || bound.Rise.Lo != 0 || bound.Rise.Hi == 0 {
		t.Fatal(bound)
	}
	for k, x := range []struct {
		x           gauge.Reading
		early, late bool // whether it is allowed if the wave may have come, and if it begins too late for that
	}{
		{height(0, bound.Rise.Hi, sp(900000)), true, false}, {height(0, -bound.Rise.Hi, sp(900000)), true, false}, {height(0, 0, sp(900000)), true, true},
		{peak(0, 0, sp(0, 900000)), true, true}, {peak(0, -bound.Rise.Hi, sp(0, 900000)), true, false}, {peak(0, bound.Rise.Hi, sp(0, 900000)), true, false},
		{came(0, sp(900000)), true, false}, {calm(0, sp(900000)), true, true},
	} {
		for time, want := range map[int]bool{0: x.early, 900000 - bound.Arrive.Lo: x.early, 900000 - bound.Arrive.Lo + 1: x.late, 1000000000: x.late} {
			if is, e := gauge.Allows(s, exampleX(), x.x, time); e != api.OK || is != want {
				t.Error(k, x, time, is, e)
			}
		}
	}
}

func seaOf(s gauge.Site) api.Span {
	sea, _ := tide.Range(s.Tide)
	return sea
}

// boundsOf are those of a source in each cell, at the time 0.
func boundsOf(s gauge.Site, x api.Source) []wave.Bound {
	x.Time = sp(0)
	l, e := wave.One(s.Grid, seaOf(s), s.Wave, x)
	if e != api.OK {
		panic(e)
	}
	return l
}

func meet(a, b api.Span) bool { return a.Lo <= b.Hi && b.Lo <= a.Hi }

// allowsByDefinition follows the chapter, word by word.
func allowsByDefinition(s gauge.Site, b wave.Bound, r gauge.Reading, t int) bool {
	g := s.Gauges[r.Gauge]
	A, R, V, o := b.Arrive, b.Rise, levelByDefinition(s, r), outerByDefinition(s, r)
	i := sp(r.Time.Lo+g.Clock.Hi, r.Time.Hi+g.Clock.Lo)
	T, e := tide.Level(s.Tide, o)
	if e != api.OK {
		panic(e)
	}
	switch r.Kind {
	case gauge.Height:
		if meet(V, T) {
			return true
		}
		return t+A.Lo <= o.Hi && meet(V, sp(T.Lo-R.Hi, T.Hi+R.Hi))
	case gauge.Peak:
		if t+A.Lo > o.Hi {
			return meet(V, T)
		}
		if i.Lo <= i.Hi && t+A.Lo >= i.Lo && t+A.Hi <= i.Hi {
			return meet(V, sp(T.Lo+R.Lo, T.Hi+R.Hi))
		}
		return meet(V, sp(T.Lo-R.Hi, T.Hi+R.Hi))
	case gauge.Came:
		return R.Hi >= g.Notice && t+A.Lo <= o.Hi && t+A.Hi >= o.Lo
	}
	return R.Lo < g.Notice || t+A.Hi > o.Lo
}

// P6.3: by definition, near all edges.
func TestAllowsByDefinition(t *testing.T) {
	r := dice(11)
	counts := map[int][2]int{}
	for k := range 2000 {
		s, c := randomCase(r)
		for _, x := range c.Sources {
			bounds := boundsOf(s, x)
			for _, reading := range c.Readings {
				time := integerIn(r, x.Time)
				want := allowsByDefinition(s, bounds[s.Gauges[reading.Gauge].Cell], reading, time)
				if is, e := gauge.Allows(s, x, reading, time); e != api.OK || is != want {
					t.Error(k, s, x, reading, time, is, e)
				}
				n := counts[reading.Kind]
				if want {
					n[0]++
				} else {
					n[1]++
				}
				counts[reading.Kind] = n
			}
		}
	}
	for kind, n := range counts {
		if min(n[0], n[1]) < 700 {
			t.Error("few cases:", kind, n)
		}
	}
}

func integerIn(r *rand.Rand, s api.Span) int { return s.Lo + r.IntN(s.Hi-s.Lo+1) }
