package gauge_test

import (
	"math"
	"reflect"
	"slices"
	"testing"

	"tidewall/api"
	"tidewall/gauge"
	"tidewall/tide"
	"tidewall/wave"
)

// P0 and R5: whatever integers they are given, all functions end without a panic, and never take what is out of range for valid.
func TestAnyIntegers(t *testing.T) {
	r := dice(60)
	odd := []int{math.MinInt, math.MinInt + 1, -1 << 40, -100000001, -100000000, -20001, -10001, -10000, -1001, -1, 0, 0, 1, 1, 2, 3, 4, 5, 8, 9, 10, 11, 24, 25, 40, 41, 1001, 1025, 5001, 10001, 20001, 100000001, 1000000000, 1000000001, 1100000001, 1 << 32, 1 << 40, 1 << 62, math.MaxInt - 1, math.MaxInt}
	pick := func() int { return odd[r.IntN(len(odd))] }
	number := func(least, greatest int) int {
		if r.IntN(60) > 0 {
			return least + r.IntN(greatest-least+1)
		}
		return pick()
	}
	span := func(least, greatest int) api.Span {
		if r.IntN(60) > 0 {
			return within(r, sp(least, greatest))
		}
		return sp(pick(), pick())
	}
	isSpan := func(s api.Span, least, greatest int) bool {
		return s.Lo <= s.Hi && s.Lo >= least && s.Hi <= greatest
	}
	first := func(l ...api.Errno) api.Errno {
		i := slices.IndexFunc(l, func(e api.Errno) bool { return e != api.OK })
		if i < 0 {
			return api.OK
		}
		return l[i]
	}
	unless := func(holds bool, e api.Errno) api.Errno {
		if holds {
			return api.OK
		}
		return e
	}
	valid := 0
	for range 30000 {
		s := gauge.Site{
			Grid: api.Grid{Wide: number(2, 2), High: number(1, 1), Size: number(1, 10000), Ground: []api.Span{span(-1200000, 1200000), span(-1200000, -21000)}},
			Tide: tide.Model{Mean: number(-10000, 10000), Parts: []tide.Part{{Amp: number(0, 1000), Period: number(1, 1000000000), Phase: number(0, 3599)}}},
			Wave: wave.Model{Keep: span(1, 1024), Land: span(10, 100000), Loss: span(0, 1000)},
			Gauges: []gauge.Gauge{
				{Cell: number(1, 1), Clock: span(-100000000, 100000000), Datum: span(-10000, 10000), Drift: span(-1000, 1000), Since: number(0, 1000000000), Notice: number(0, 5000)},
			},
		}
		g, p := s.Gauges[0], s.Tide.Parts[0]
		x := source(number(1, 3), number(0, 1), number(1, 10), span(0, 1000000000))
		reading := gauge.Reading{Kind: number(1, 4), Gauge: number(0, 0), Time: span(-100000000, 1100000000), Level: span(-20000, 20000)}
		time, f, i, proof := number(0, 1000000000), number(0, 8), number(0, 1), []int{number(0, 1)}
		badGrid := first(unless(isSpan(sp(s.Grid.Wide), 1, 24) && isSpan(sp(s.Grid.High), 1, 24) && isSpan(sp(s.Grid.Size), 1, 10000), api.ErrRange),
			unless(s.Grid.Wide*s.Grid.High == 2, api.ErrShape),
			unless(isSpan(s.Grid.Ground[0], -1200000, 1200000) && isSpan(s.Grid.Ground[1], -1200000, 1200000), api.ErrRange))
		badTide := unless(isSpan(sp(s.Tide.Mean), -10000, 10000) && isSpan(sp(p.Amp), 0, 1000) && isSpan(sp(p.Period), 1, 1000000000) && isSpan(sp(p.Phase), 0, 3599), api.ErrRange)
		badWave := unless(isSpan(s.Wave.Keep, 1, 1024) && isSpan(s.Wave.Land, 10, 100000) && isSpan(s.Wave.Loss, 0, 1000), api.ErrRange)
		badGauge := unless(isSpan(sp(g.Cell), 0, 1), api.ErrNone)
		if badGauge == api.OK {
			badGauge = first(unless(s.Tide.Mean-p.Amp-s.Grid.Ground[g.Cell].Hi >= 1, api.ErrDry),
				unless(isSpan(g.Clock, -100000000, 100000000) && isSpan(g.Datum, -10000, 10000) && isSpan(g.Drift, -1000, 1000) && isSpan(sp(g.Since), 0, 1000000000) && isSpan(sp(g.Notice), 0, 5000), api.ErrRange))
		}
		badSite := first(badGrid, badTide, badWave, badGauge)
		badReading := first(unless(isSpan(sp(reading.Kind), 1, 4), api.ErrArg), unless(reading.Gauge == 0, api.ErrNone),
			unless(isSpan(reading.Time, -100000000, 1100000000) && isSpan(reading.Level, -20000, 20000) && isSpan(sumOf(reading.Time, g.Clock), 0, 1000000000), api.ErrRange))
		badSource := first(unless(isSpan(sp(x.Kind), 1, 3), api.ErrArg), unless(isSpan(sp(x.Cell), 0, 1), api.ErrNone), unless(isSpan(sp(x.Class), 1, 10) && isSpan(x.Time, 0, 1000000000), api.ErrRange))
		badCase := first(badSite, badSource, badReading, unless(isSpan(sp(f), 0, 8), api.ErrRange))
		badNumber := unless(isSpan(sp(i), 0, 1), api.ErrNone)
		badProof := first(unless(isSpan(sp(proof[0]), 0, 1), api.ErrNone), unless(proof[0] != i, api.ErrArg))

		c := gauge.Case{Sources: []api.Source{x}, Quiet: r.IntN(2) == 0, Readings: []gauge.Reading{reading, reading}, False: f}
		var got []api.Errno
		for _, c := range append(callsWithCase(s, c, i, proof), call{"Check", gauge.Check(s), true}, callShown(s, reading), callAllows(s, x, reading, time)) {
			got = append(got, c.e)
		}
		if got[3] == api.ErrProof {
			got[3] = api.OK
		}
		want := []api.Errno{
			badCase, badCase, first(badCase, badNumber), first(badCase, badNumber, badProof), badCase,
			badSite, first(badSite, badReading), first(badSite, badReading, badSource, unless(isSpan(sp(time), 0, 1000000000), api.ErrRange)),
		}
		if !slices.Equal(got, want) {
			t.Error(s, c, time, i, proof, got, want)
		}
		if badCase == api.OK {
			valid++
		}
	}
	if valid < 3000 {
		t.Error("few of the calls were valid:", valid)
	}
}

// P0: readings and sources at the ends of all times, with the greatest clocks.
func TestEndsOfTime(t *testing.T) {
	s := siteWith(func(g *gauge.Gauge) { g.Clock = sp(-100000000, 100000000) })
	s.Gauges[1].Clock = sp(-100000000)
	whole := source(api.Slide, 0, 7, sp(0, 1000000000))
	for k, x := range []struct {
		x    gauge.Reading
		want []api.Source
	}{
		{came(1, sp(1100000000)), []api.Source{source(api.Slide, 0, 7, sp(1000000000-116928, 1000000000-116926))}},
		{calm(1, sp(1100000000)), []api.Source{source(api.Slide, 0, 7, sp(1000000000-116928+1, 1000000000))}},
		{came(1, sp(100000000)), nil},
		{calm(1, sp(100000000)), []api.Source{whole}},
		{came(0, sp(100000000)), []api.Source{source(api.Slide, 0, 7, sp(0, 200000000-15963))}},
		{came(0, sp(900000000)), []api.Source{source(api.Slide, 0, 7, sp(800000000-15964, 1000000000-15963))}},
		{height(0, 1, sp(900000000)), []api.Source{source(api.Slide, 0, 7, sp(0, 1000000000-15963))}},
		{peak(0, 0, sp(100000000, 900000000)), []api.Source{whole}},
		{peak(0, 1, sp(100000000, 900000000)), []api.Source{source(api.Slide, 0, 7, sp(0, 1000000000-15963))}},
		{peak(1, 0, sp(100000000, 1100000000)), []api.Source{source(api.Slide, 0, 7, sp(1000000000-116927, 1000000000))}},
	} {
		if l, _, e := gauge.Left(s, gauge.Case{Sources: []api.Source{whole}, Readings: []gauge.Reading{x.x}}); e != api.OK || !slices.Equal(l, x.want) {
			t.Error(k, l, e)
		}
	}
}

// all are the results of all functions.
func all(s gauge.Site, c gauge.Case) []any {
	check := gauge.Check(s)
	l, isCalm, left := gauge.Left(s, c)
	judged, judge := gauge.Judge(s, c)
	n, agree := gauge.Agree(s, c)
	results := []any{check, l, isCalm, left, judged, judge, n, agree}
	for i, x := range c.Readings {
		proof, isFalse, prove := gauge.Prove(s, c, i)
		time, level, shown := gauge.Shown(s, x)
		is, allows := gauge.Allows(s, c.Sources[0], x, c.Sources[0].Time.Lo)
		results = append(results, proof, isFalse, prove, gauge.Verify(s, c, i, proof), time, level, shown, is, allows)
	}
	return results
}

// withTails has lists that go on behind their ends, which no call may write to.
func withTails(s gauge.Site, c gauge.Case) (gauge.Site, gauge.Case) {
	s.Grid.Ground = append(slices.Clone(s.Grid.Ground), sp(77), sp(78))[:len(s.Grid.Ground)]
	s.Tide.Parts = append(slices.Clone(s.Tide.Parts), tide.Part{Amp: 7}, tide.Part{Amp: 8})[:len(s.Tide.Parts)]
	s.Gauges = append(slices.Clone(s.Gauges), gauge.Gauge{Cell: 7}, gauge.Gauge{Cell: 8})[:len(s.Gauges)]
	c.Sources = append(slices.Clone(c.Sources), source(7, 7, 7, sp(7)), source(8, 8, 8, sp(8)))[:len(c.Sources)]
	c.Readings = append(slices.Clone(c.Readings), came(7, sp(7)), came(8, sp(8)))[:len(c.Readings)]
	return s, c
}

func tails(s gauge.Site, c gauge.Case) []any {
	ground, parts, gauges := len(s.Grid.Ground), len(s.Tide.Parts), len(s.Gauges)
	sources, readings := len(c.Sources), len(c.Readings)
	return []any{s.Grid.Ground[:ground+2], s.Tide.Parts[:parts+2], s.Gauges[:gauges+2], c.Sources[:sources+2], c.Readings[:readings+2]}
}

// R4: no call changes its arguments, nor what lies behind them; and the same call has the same result.
func TestArgumentsStay(t *testing.T) {
	r := dice(61)
	for k := range 300 {
		s, c := withTails(randomCase(r))
		proof := othersThan(c, 0)
		want := tails(withTails(s, c))
		before := all(s, c)
		after := all(s, c)
		gauge.Verify(s, c, 0, proof)
		if !reflect.DeepEqual(tails(s, c), want) || !slices.Equal(proof, othersThan(c, 0)) {
			t.Error(k, s, c, proof)
		}
		if !reflect.DeepEqual(before, after) {
			t.Error(k, before, after)
		}
	}
}

// R4: results share no memory with arguments, nor with later results.
func TestResultsAreNew(t *testing.T) {
	c := gauge.Case{Sources: []api.Source{exampleX()}, Readings: exampleReadings(), False: 1}
	for range 2 {
		l, _, _ := gauge.Left(exampleS(), c)
		judged, _ := gauge.Judge(exampleS(), c)
		proof, _, _ := gauge.Prove(exampleS(), c, 1)
		if len(l) != 1 || !slices.Equal(judged, []int{1, 3, 1}) || !slices.Equal(proof, []int{0, 2}) || c.Sources[0] != exampleX() || !slices.Equal(c.Readings, exampleReadings()) {
			t.Error(l, judged, proof, c)
		}
		clear(l)
		clear(judged)
		clear(proof)
	}
}

// R3: nil and empty lists are the same.
func TestNilIsEmpty(t *testing.T) {
	s := exampleS()
	for k, c := range []gauge.Case{{Quiet: true}, {Quiet: true, Sources: []api.Source{}, Readings: []gauge.Reading{}}} {
		l, isCalm, e := gauge.Left(s, c)
		judged, e2 := gauge.Judge(s, c)
		n, e3 := gauge.Agree(s, c)
		if e != api.OK || e2 != api.OK || e3 != api.OK || len(l) != 0 || !isCalm || len(judged) != 0 || n != 0 {
			t.Error(k, l, isCalm, judged, n, e, e2, e3)
		}
	}
	wrong := gauge.Case{Quiet: true, Readings: []gauge.Reading{came(0, sp(0)), calm(0, sp(0))}}
	for k, proof := range [][]int{nil, {}} {
		expect(t, k, api.OK, callVerify(s, wrong, 0, proof))
		expect(t, k, api.ErrProof, callVerify(s, wrong, 1, proof))
	}
	for k, l := range [][]gauge.Gauge{nil, {}} {
		s.Gauges = l
		expect(t, k, api.OK, call{"Check", gauge.Check(s), true}, callLeft(s, gauge.Case{Sources: []api.Source{exampleX()}}))
		expect(t, k, api.ErrNone, callShown(s, came(0, sp(0))))
	}
	for k, l := range [][]tide.Part{nil, {}} {
		s := exampleS()
		s.Tide.Parts = l
		expect(t, k, api.OK, call{"Check", gauge.Check(s), true})
	}
	for k, l := range [][]api.Span{nil, {}} {
		s := exampleS()
		s.Grid.Ground = l
		expect(t, k, api.ErrShape, call{"Check", gauge.Check(s), true})
	}
}

// greatest is a case of the greatest size, with readings that are true of one of its sources.
func greatest() (gauge.Site, gauge.Case) {
	r := dice(62)
	s := gauge.Site{Tide: randomTide(r)}
	s.Grid = api.Grid{Wide: api.MaxSide, High: api.MaxSide, Size: 500}
	for range api.MaxSide * api.MaxSide {
		s.Grid.Ground = append(s.Grid.Ground, sp(-3000-r.IntN(3000)))
	}
	s.Wave = wave.Model{Keep: sp(1000, 1024), Land: sp(100), Loss: sp(10)}
	for range gauge.MaxGauges {
		s.Gauges = append(s.Gauges, randomGauge(r, r.IntN(len(s.Grid.Ground))))
	}
	c := gauge.Case{Quiet: true, False: gauge.MaxFalse}
	for range api.MaxSources {
		c.Sources = append(c.Sources, source(1+r.IntN(3), r.IntN(len(s.Grid.Ground)), 1+r.IntN(api.MaxClass), sp(200000, 100000000)))
	}
	u := truthOf(r, s, c.Sources[100], 5000000)
	for len(c.Readings) < gauge.MaxReadings {
		if x, ok := u.reading(r, 5000000); ok {
			c.Readings = append(c.Readings, x)
		}
	}
	return s, c
}

// Nothing depends on what was called before, nor on the order of a map; the same call has the same result, also in several goroutines, of the greatest case.
func TestSameCallSameResult(t *testing.T) {
	s, c := greatest()
	want, isCalm, e := gauge.Left(s, c)
	if e != api.OK || len(want) == 0 {
		t.Fatal(len(want), isCalm, e)
	}
	done := make(chan []api.Source)
	for range 3 {
		go func() {
			l, _, _ := gauge.Left(s, c)
			done <- l
		}()
	}
	for range 3 {
		if l := <-done; !slices.Equal(l, want) {
			t.Error("another result")
		}
	}
	proof, isFalse, e := gauge.Prove(s, c, 0)
	again, isAgain, e2 := gauge.Prove(s, c, 0)
	if e != api.OK || e2 != api.OK || isFalse != isAgain || !slices.Equal(proof, again) {
		t.Error(proof, isFalse, e, again, isAgain, e2)
	}
}
