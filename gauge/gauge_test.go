package gauge_test

import (
	"math"
	"math/rand/v2"
	"slices"
	"testing"

	"tidewall/api"
	"tidewall/gauge"
	"tidewall/tide"
	"tidewall/wave"
)

// sp is a span, or, with one number, a point.
func sp(lo int, hi ...int) api.Span {
	if len(hi) == 0 {
		return api.Span{Lo: lo, Hi: lo}
	}
	return api.Span{Lo: lo, Hi: hi[0]}
}

func spanIn(a, b api.Span) bool { return a.Lo >= b.Lo && a.Hi <= b.Hi }

func dice(seed uint64) *rand.Rand { return rand.New(rand.NewPCG(seed, 1)) }

// within is a random span within another one, often with an end of it, and often a point.
func within(r *rand.Rand, s api.Span) api.Span {
	lo := s.Lo + r.IntN(s.Hi-s.Lo+1)
	if r.IntN(4) == 0 {
		lo = s.Lo
	}
	hi := lo + r.IntN(s.Hi-lo+1)
	switch r.IntN(4) {
	case 0:
		hi = s.Hi
	case 1:
		hi = lo
	}
	return sp(lo, hi)
}

// exampleS is the site S of the chapter's examples.
func exampleS() gauge.Site {
	return gauge.Site{
		Grid:   api.Grid{Wide: 4, High: 1, Size: 1000, Ground: []api.Span{sp(-40000), sp(-40000), sp(-1000), sp(300)}},
		Wave:   wave.Model{Keep: sp(1024), Land: sp(100), Loss: sp(10)},
		Gauges: []gauge.Gauge{{Cell: 1, Notice: 20}, {Cell: 2, Notice: 20}},
	}
}

// siteWith is the site of the examples with another first gauge.
func siteWith(change func(*gauge.Gauge)) gauge.Site {
	s := exampleS()
	change(&s.Gauges[0])
	return s
}

// exampleX is the source X of the chapter's examples.
func exampleX() api.Source { return source(api.Slide, 0, 7, sp(0, 100000)) }

func source(kind, cell, class int, time api.Span) api.Source {
	return api.Source{Kind: kind, Cell: cell, Class: class, Time: time}
}

func height(number, level int, time api.Span) gauge.Reading {
	return gauge.Reading{Kind: gauge.Height, Gauge: number, Time: time, Level: sp(level)}
}

func peak(number, level int, time api.Span) gauge.Reading {
	return gauge.Reading{Kind: gauge.Peak, Gauge: number, Time: time, Level: sp(level)}
}

func came(number int, time api.Span) gauge.Reading {
	return gauge.Reading{Kind: gauge.Came, Gauge: number, Time: time}
}

func calm(number int, time api.Span) gauge.Reading {
	return gauge.Reading{Kind: gauge.Calm, Gauge: number, Time: time}
}

// badSpans are spans that do not lie from least to greatest, or are not valid.
func badSpans(least, greatest int) []api.Span {
	return []api.Span{
		sp(least+1, least), sp(greatest, least), sp(least-1, greatest), sp(least, greatest+1), sp(least - 1), sp(greatest + 1), sp(math.MinInt), sp(math.MaxInt),
		sp(math.MinInt, math.MaxInt), sp(math.MaxInt, math.MinInt), sp(least, math.MaxInt), sp(math.MinInt, greatest),
	}
}

// tideOf is a tide whose amplitudes have a sum.
func tideOf(mean, sum int) tide.Model {
	m := tide.Model{Mean: mean}
	for i := range tide.MaxParts {
		m.Parts = append(m.Parts, tide.Part{Amp: (sum + i) / tide.MaxParts, Period: 1000})
	}
	return m
}

// badPart is a part of a site that is wrong, with its error. Parts are numbered in the order in which they are looked at.
type badPart struct {
	number int
	e      api.Errno
	set    func(*gauge.Site)
}

// badParts are parts of sites that are wrong, but for single gauges.
func badParts() []badPart {
	grid := func(g api.Grid) func(*gauge.Site) {
		return func(s *gauge.Site) { s.Grid = g }
	}
	ground := func(l ...api.Span) func(*gauge.Site) {
		return func(s *gauge.Site) { s.Grid.Ground = l }
	}
	tides := func(m tide.Model) func(*gauge.Site) {
		return func(s *gauge.Site) { s.Tide = m }
	}
	gauges := func(g gauge.Gauge) func(*gauge.Site) {
		return func(s *gauge.Site) { s.Gauges = slices.Repeat([]gauge.Gauge{g}, 33) }
	}
	return []badPart{
		{0, api.ErrRange, grid(api.Grid{})},
		{0, api.ErrRange, func(s *gauge.Site) { s.Grid.Wide = 25 }},
		{0, api.ErrRange, func(s *gauge.Site) { s.Grid.High = math.MinInt }},
		{0, api.ErrRange, func(s *gauge.Site) { s.Grid.Size = 0 }},
		{0, api.ErrShape, ground()},
		{0, api.ErrShape, ground(sp(-1), sp(-1), sp(-1))},
		{0, api.ErrRange, ground(sp(-1), sp(-1), sp(-1), sp(1, 0))},
		{0, api.ErrRange, ground(sp(-1), sp(-1), sp(-1), sp(1200001))},
		{1, api.ErrRange, tides(tide.Model{Mean: 10001})},
		{1, api.ErrRange, tides(tide.Model{Mean: math.MinInt, Parts: make([]tide.Part, 17)})},
		{1, api.ErrMany, tides(tide.Model{Parts: make([]tide.Part, 17)})},
		{1, api.ErrRange, tides(tide.Model{Parts: make([]tide.Part, 1)})},
		{1, api.ErrRange, tides(tide.Model{Parts: []tide.Part{{Amp: 1001, Period: 1}}})},
		{2, api.ErrRange, tides(tideOf(10000, 10001))},
		{2, api.ErrRange, tides(tideOf(-10000, 10001))},
		{2, api.ErrRange, tides(tideOf(4001, 16000))},
		{3, api.ErrRange, func(s *gauge.Site) { s.Wave = wave.Model{} }},
		{3, api.ErrRange, func(s *gauge.Site) { s.Wave.Keep = sp(0, 1) }},
		{3, api.ErrRange, func(s *gauge.Site) { s.Wave.Land = sp(9) }},
		{3, api.ErrRange, func(s *gauge.Site) { s.Wave.Loss = sp(2, 1) }},
		{4, api.ErrMany, gauges(gauge.Gauge{})},
		{4, api.ErrMany, gauges(gauge.Gauge{Cell: 9, Since: -1})},
	}
}

// badGauges are gauges that are not valid at the site of the examples, each with its error.
func badGauges() map[gauge.Gauge]api.Errno {
	l := map[gauge.Gauge]api.Errno{}
	with := func(e api.Errno, change func(*gauge.Gauge)) {
		g := gauge.Gauge{Cell: 1}
		change(&g)
		l[g] = e
	}
	for _, cell := range []int{-1, 4, math.MinInt, math.MaxInt} {
		with(api.ErrNone, func(g *gauge.Gauge) { g.Cell = cell })
		with(api.ErrNone, func(g *gauge.Gauge) { g.Cell, g.Notice = cell, -1 })
	}
	with(api.ErrDry, func(g *gauge.Gauge) { g.Cell = 3 })
	with(api.ErrDry, func(g *gauge.Gauge) { g.Cell, g.Clock = 3, sp(1, 0) })
	for _, bad := range badSpans(-100000000, 100000000) {
		with(api.ErrRange, func(g *gauge.Gauge) { g.Clock = bad })
	}
	for _, bad := range badSpans(-10000, 10000) {
		with(api.ErrRange, func(g *gauge.Gauge) { g.Datum = bad })
	}
	for _, bad := range badSpans(-1000, 1000) {
		with(api.ErrRange, func(g *gauge.Gauge) { g.Drift = bad })
	}
	for _, bad := range []int{-1, 1000000001, math.MinInt, math.MaxInt} {
		with(api.ErrRange, func(g *gauge.Gauge) { g.Since = bad })
	}
	for _, bad := range []int{-1, 5001, math.MinInt, math.MaxInt} {
		with(api.ErrRange, func(g *gauge.Gauge) { g.Notice = bad })
	}
	return l
}

// call is a call of any function, with whether all else that it returns is a zero value.
type call struct {
	name   string
	e      api.Errno
	isZero bool
}

// expect checks the errors of calls, and the zero values beside them.
func expect(t *testing.T, k any, want api.Errno, calls ...call) {
	t.Helper()
	for _, c := range calls {
		if c.e != want || want != api.OK && !c.isZero {
			t.Error(c.name, k, c, want)
		}
	}
}

func callShown(s gauge.Site, r gauge.Reading) call {
	time, level, e := gauge.Shown(s, r)
	return call{"Shown", e, time == api.Span{} && level == api.Span{}}
}

func callAllows(s gauge.Site, x api.Source, r gauge.Reading, t int) call {
	is, e := gauge.Allows(s, x, r, t)
	return call{"Allows", e, !is}
}

func callLeft(s gauge.Site, c gauge.Case) call {
	l, is, e := gauge.Left(s, c)
	return call{"Left", e, len(l) == 0 && !is}
}

func callJudge(s gauge.Site, c gauge.Case) call {
	l, e := gauge.Judge(s, c)
	return call{"Judge", e, len(l) == 0}
}

func callProve(s gauge.Site, c gauge.Case, i int) call {
	l, is, e := gauge.Prove(s, c, i)
	return call{"Prove", e, len(l) == 0 && !is}
}

func callVerify(s gauge.Site, c gauge.Case, i int, proof []int) call {
	return call{"Verify", gauge.Verify(s, c, i, proof), true}
}

func callAgree(s gauge.Site, c gauge.Case) call {
	n, e := gauge.Agree(s, c)
	return call{"Agree", e, n == 0}
}

// callsWithCase calls all functions that have a case.
func callsWithCase(s gauge.Site, c gauge.Case, i int, proof []int) []call {
	return []call{callLeft(s, c), callJudge(s, c), callProve(s, c, i), callVerify(s, c, i, proof), callAgree(s, c)}
}

// wrongCalls are calls of all functions with a site, all of whose other arguments are wrong too.
func wrongCalls(s gauge.Site) []call {
	c := gauge.Case{Sources: make([]api.Source, 257), Quiet: true, Readings: make([]gauge.Reading, 41), False: -1}
	calls := callsWithCase(s, c, -1, []int{-1})
	return append(calls, call{"Check", gauge.Check(s), true}, callShown(s, gauge.Reading{}), callAllows(s, api.Source{}, gauge.Reading{}, -1))
}

// fairCalls are calls of all functions with a site, all of whose other arguments are right.
func fairCalls(s gauge.Site) []call {
	c := gauge.Case{Quiet: true, Sources: []api.Source{exampleX()}, Readings: []gauge.Reading{came(0, sp(20000)), calm(0, sp(9))}}
	calls := callsWithCase(s, c, 0, []int{1})
	return append(calls, call{"Check", gauge.Check(s), true}, callShown(s, c.Readings[0]), callAllows(s, exampleX(), c.Readings[0], 0))
}

// P6.1, R1, R2: all functions return the error of Check first, with zero values beside it. Of the parts of a site the first one that is wrong decides.
func TestSiteComesFirst(t *testing.T) {
	l := badParts()
	for k, first := range l {
		s := exampleS()
		first.set(&s)
		expect(t, k, first.e, wrongCalls(s)...)
		expect(t, k, first.e, fairCalls(s)...)
		for i, second := range l {
			areOneTide := first.number == 1 && second.number == 2
			if second.number <= first.number || areOneTide {
				continue
			}
			s := exampleS()
			first.set(&s)
			second.set(&s)
			expect(t, [2]int{k, i}, first.e, wrongCalls(s)...)
		}
	}
}

// P6.1, R6: the first gauge with an error decides, behind all other parts; and of its errors that named first.
func TestGaugesOfSite(t *testing.T) {
	for g, e := range badGauges() {
		s := exampleS()
		s.Gauges = []gauge.Gauge{g}
		expect(t, g, e, wrongCalls(s)...)
		for _, next := range []gauge.Gauge{{Cell: 4}, {Cell: 3}, {Notice: -1}} {
			s.Gauges = append(exampleS().Gauges, g, next)
			expect(t, g, e, wrongCalls(s)...)
			expect(t, g, e, fairCalls(s)...)
		}
		for k, part := range badParts() {
			s := exampleS()
			s.Gauges[0] = g
			part.set(&s)
			expect(t, k, part.e, wrongCalls(s)...)
		}
	}
}

// P6.1: a gauge is in a cell that is sea for sure, for the lowest sea and the highest ground.
func TestGaugeIsInTheSea(t *testing.T) {
	for k, x := range []struct {
		ground api.Span
		mean   int
		amp    int
		want   api.Errno
	}{
		{sp(-1), 0, 0, api.OK}, {sp(0), 0, 0, api.ErrDry}, {sp(-100, -1), 0, 0, api.OK}, {sp(-100, 0), 0, 0, api.ErrDry}, {sp(300), 0, 0, api.ErrDry},
		{sp(300), 301, 0, api.OK}, {sp(300), 300, 0, api.ErrDry}, {sp(300), 311, 10, api.OK}, {sp(300), 310, 10, api.ErrDry}, {sp(-10), 0, 9, api.OK}, {sp(-10), 0, 10, api.ErrDry},
	} {
		s := exampleS()
		s.Grid.Ground[1] = x.ground
		s.Tide = tide.Model{Mean: x.mean, Parts: []tide.Part{{Amp: x.amp, Period: 1000}}}
		if e := gauge.Check(s); e != x.want {
			t.Error(k, x, e)
		}
	}
}

// P6.1, R7: the greatest and least parts of a site, and 32 gauges, are valid.
func TestSiteLimits(t *testing.T) {
	all := gauge.Gauge{Cell: 1, Clock: sp(-100000000, 100000000), Datum: sp(-10000, 10000), Drift: sp(-1000, 1000), Since: 1000000000, Notice: 5000}
	ends := []gauge.Gauge{{Cell: 0, Clock: sp(-100000000), Datum: sp(-10000), Drift: sp(-1000)}, {Cell: 2, Clock: sp(100000000), Datum: sp(10000), Drift: sp(1000)}}
	many := exampleS()
	many.Gauges = append(slices.Repeat([]gauge.Gauge{all}, 30), ends...)
	none := exampleS()
	none.Gauges = nil
	high, low := exampleS(), exampleS()
	high.Tide, low.Tide = tideOf(10000, 10000), tideOf(-10000, 10000)
	low.Gauges = low.Gauges[:1]
	for k, s := range []gauge.Site{exampleS(), many, none, high, low} {
		if e := gauge.Check(s); e != api.OK {
			t.Error(k, e)
		}
	}
	many.Gauges = append(many.Gauges, all)
	if e := gauge.Check(many); e != api.ErrMany {
		t.Error(e)
	}
}
