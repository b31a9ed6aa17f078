package gauge_test

import (
	"math/rand/v2"
	"slices"
	"testing"

	"tidewall/api"
	"tidewall/gauge"
	"tidewall/tide"
	"tidewall/wave"
)

// The examples of the chapter.
func TestLeftExamples(t *testing.T) {
	at := func(lo, hi int) []api.Source { return []api.Source{source(api.Slide, 0, 7, sp(lo, hi))} }
	for k, x := range []struct {
		readings []gauge.Reading
		isQuiet  bool
		f        int
		want     []api.Source
		isCalm   bool
	}{
		{[]gauge.Reading{came(0, sp(20000))}, false, 0, at(4036, 4037), false},
		{[]gauge.Reading{came(0, sp(20000, 30000)), calm(1, sp(130000))}, false, 0, at(13073, 14037), false},
		{[]gauge.Reading{height(0, 100, sp(20000))}, false, 0, at(0, 4037), false},
		{[]gauge.Reading{height(0, 300, sp(20000))}, false, 0, nil, false},
		{[]gauge.Reading{peak(0, 50, sp(10000, 40000))}, false, 0, at(24037, 24037), false},
		{[]gauge.Reading{peak(0, 0, sp(0, 40000))}, true, 0, at(24037, 100000), true},
		{[]gauge.Reading{came(0, sp(20000)), came(1, sp(20000))}, false, 0, nil, false},
		{[]gauge.Reading{came(0, sp(20000)), came(1, sp(20000))}, false, 1, at(4036, 4037), false},
		// No wave: with no reading, with some that do not allow it, and where it is not possible.
		{nil, true, 0, at(0, 100000), true},
		{nil, false, 0, at(0, 100000), false},
		{[]gauge.Reading{came(0, sp(20000))}, true, 0, at(4036, 4037), false},
		{[]gauge.Reading{came(0, sp(20000))}, true, 1, at(0, 100000), true},
		{[]gauge.Reading{came(0, sp(20000)), came(0, sp(20000))}, true, 1, at(4036, 4037), false},
		{[]gauge.Reading{height(0, 1, sp(20000))}, true, 0, at(0, 4037), false},
		{[]gauge.Reading{calm(0, sp(1000000000)), calm(1, sp(1000000000))}, true, 0, nil, true},
	} {
		c := gauge.Case{Sources: []api.Source{exampleX()}, Quiet: x.isQuiet, Readings: x.readings, False: x.f}
		if l, isCalm, e := gauge.Left(exampleS(), c); e != api.OK || !slices.Equal(l, x.want) || isCalm != x.isCalm {
			t.Error(k, l, isCalm, e)
		}
	}
}

func TestJudgeAndAgreeExamples(t *testing.T) {
	early, late, second := came(0, sp(20000)), came(1, sp(200000)), came(1, sp(120963))
	one := []api.Source{exampleX()}
	for k, x := range []struct {
		c     gauge.Case
		want  []int
		agree int
	}{
		{gauge.Case{Sources: one, Readings: []gauge.Reading{early, late, second}, False: 1}, []int{1, 3, 1}, 1},
		{gauge.Case{Sources: one, Readings: []gauge.Reading{early, late, second}, False: 2}, []int{2, 2, 2}, 1},
		{gauge.Case{Sources: one, Readings: []gauge.Reading{early, late, second}}, []int{3, 3, 3}, 1},
		{gauge.Case{Sources: one, Readings: []gauge.Reading{early, second}}, []int{1, 1}, 0},
		{gauge.Case{Sources: one, Quiet: true, Readings: []gauge.Reading{early, second}, False: 2}, []int{2, 2}, 0},
		{gauge.Case{Quiet: true, Readings: []gauge.Reading{early, second, calm(0, sp(0))}, False: 2}, []int{3, 3, 1}, 2},
		{gauge.Case{Quiet: true, Readings: []gauge.Reading{early, second, calm(0, sp(0))}, False: 1}, []int{3, 3, 3}, 2},
		// Without a possibility.
		{gauge.Case{Readings: []gauge.Reading{early, calm(0, sp(0))}, False: 8}, []int{3, 3}, -1},
		{gauge.Case{False: 8}, nil, -1},
		{gauge.Case{Quiet: true}, nil, 0},
		{gauge.Case{Sources: one}, nil, 0},
		{gauge.Case{Sources: one, Readings: slices.Repeat([]gauge.Reading{height(0, 1000, sp(0))}, 40), False: 8}, slices.Repeat([]int{3}, 40), 40},
	} {
		if l, e := gauge.Judge(exampleS(), x.c); e != api.OK || !slices.Equal(l, x.want) {
			t.Error(k, l, e)
		}
		if n, e := gauge.Agree(exampleS(), x.c); e != api.OK || n != x.agree {
			t.Error(k, n, e)
		}
	}
}

// Times at which a source remains can lie apart: what is left has all that lies between them.
func TestLeftSpansGaps(t *testing.T) {
	c := gauge.Case{Sources: []api.Source{exampleX()}, Readings: []gauge.Reading{came(0, sp(20000)), came(0, sp(40000)), came(0, sp(60000))}}
	for f, want := range []api.Span{{}, {}, sp(4036, 44037), sp(0, 100000)} {
		c.False = f
		l, _, e := gauge.Left(exampleS(), c)
		if e != api.OK || f < 2 && len(l) != 0 || f >= 2 && (len(l) != 1 || l[0].Time != want) {
			t.Error(f, l, e)
		}
	}
}

// Each source is looked at alone, with its own time: also those that differ in this alone, and twice the same one.
func TestSourcesStayInOrder(t *testing.T) {
	early, late, other := source(api.Slide, 0, 7, sp(0, 4036)), source(api.Slide, 0, 7, sp(4037, 9000)), source(api.Volcano, 2, 5, sp(0, 100000))
	c := gauge.Case{Sources: []api.Source{late, other, early, late, early}, Readings: []gauge.Reading{came(0, sp(20000))}}
	want := []api.Source{source(api.Slide, 0, 7, sp(4037)), source(api.Slide, 0, 7, sp(4036)), source(api.Slide, 0, 7, sp(4037)), source(api.Slide, 0, 7, sp(4036))}
	l, _, e := gauge.Left(exampleS(), c)
	if e != api.OK || len(l) != 5 || l[1].Cell != 2 || !slices.Equal(slices.Delete(slices.Clone(l), 1, 2), want) {
		t.Error(l, e)
	}
}

// randomGround has deep and shallow water, land, and ground of which it is not known whether it is land.
func randomGround(r *rand.Rand) api.Span {
	lo := []int{r.IntN(900) - 600, -r.IntN(3000), -2000 - r.IntN(40000)}[r.IntN(3)]
	return sp(lo, lo+r.IntN([]int{1, 5, 300}[r.IntN(3)]))
}

func randomTide(r *rand.Rand) tide.Model {
	m := tide.Model{Mean: r.IntN(201) - 100}
	for range r.IntN(4) {
		m.Parts = append(m.Parts, tide.Part{Amp: r.IntN(100), Period: 1 + r.IntN([]int{2000, 1000000, 50000000}[r.IntN(3)]), Phase: r.IntN(tide.Turn)})
	}
	return m
}

func randomGauge(r *rand.Rand, cell int) gauge.Gauge {
	far := []int{0, 15, 1000}[r.IntN(3)]
	steep := []int{0, 30, gauge.MaxDrift}[r.IntN(3)]
	return gauge.Gauge{
		Cell:   cell,
		Clock:  within(r, sp(-far, far)),
		Datum:  within(r, sp(-r.IntN(30), r.IntN(30))),
		Drift:  within(r, sp(-steep, steep)),
		Since:  r.IntN([]int{1, 2000000, api.MaxTime + 1}[r.IntN(3)]),
		Notice: r.IntN([]int{1, 30, 600}[r.IntN(3)]),
	}
}

func randomSite(r *rand.Rand) gauge.Site {
	s := gauge.Site{Tide: randomTide(r)}
	s.Grid = api.Grid{Wide: 1 + r.IntN(4), High: 1 + r.IntN(3), Size: 1 + r.IntN(300)}
	for range s.Grid.Wide * s.Grid.High {
		s.Grid.Ground = append(s.Grid.Ground, randomGround(r))
	}
	s.Grid.Ground[r.IntN(len(s.Grid.Ground))] = sp(-2000 - r.IntN(40000))
	s.Wave = wave.Model{Keep: within(r, sp([]int{1, 900, 1024}[r.IntN(3)], 1024)), Land: within(r, sp(10, 200)), Loss: within(r, sp(0, 30))}
	for range 1 + r.IntN(4) {
		cell := r.IntN(len(s.Grid.Ground))
		if seaOf(s).Lo > s.Grid.Ground[cell].Hi {
			s.Gauges = append(s.Gauges, randomGauge(r, cell))
		}
	}
	if len(s.Gauges) > 0 {
		return s
	}
	return randomSite(r)
}

// randomCase has readings near the edges of what they allow, so that they agree as often as not.
func randomCase(r *rand.Rand) (gauge.Site, gauge.Case) {
	s, c := randomSite(r), gauge.Case{Quiet: r.IntN(2) == 0, False: r.IntN(4)}
	start := 200000 + r.IntN(1000000)
	for range 1 + r.IntN(4) {
		c.Sources = append(c.Sources, source(1+r.IntN(3), r.IntN(len(s.Grid.Ground)), 1+r.IntN(api.MaxClass), within(r, sp(start, start+60))))
	}
	for range r.IntN(8) {
		c.Readings = append(c.Readings, randomReading(r, s, c.Sources[r.IntN(len(c.Sources))]))
	}
	return s, c
}

// randomReading is at an edge of what it allows, if the source is the given one, or near to it.
func randomReading(r *rand.Rand, s gauge.Site, x api.Source) gauge.Reading {
	either := func(s api.Span) int { return []int{s.Lo, s.Hi}[r.IntN(2)] }
	number := r.IntN(len(s.Gauges))
	g := s.Gauges[number]
	b := boundsOf(s, x)[g.Cell]
	time := integerIn(r, x.Time) - either(g.Clock) + r.IntN(9) - 4
	if came := either(b.Arrive); came != api.Never {
		time += came
	}
	reading := gauge.Reading{Kind: 1 + r.IntN(4), Gauge: number, Time: sp(time, time+r.IntN([]int{1, 30, 2000}[r.IntN(3)]))}
	if reading.Kind == gauge.Peak && r.IntN(2) == 0 {
		reading.Time.Lo -= r.IntN(40)
	}
	level, e := tide.Level(s.Tide, outerByDefinition(s, reading))
	if e != api.OK {
		panic(e)
	}
	shift := levelByDefinition(s, reading)
	raised := []int{0, b.Rise.Lo, b.Rise.Hi, -b.Rise.Hi}[r.IntN(4)]
	at := max(-20000, min(20000, either(level)+raised-either(shift)+r.IntN(5)-2))
	reading.Level = within(r, sp(max(-20000, at-r.IntN(20)), min(20000, at+r.IntN(20))))
	return reading
}

// possible is a source at a time, or no wave, for the source -1, with whether each reading does not allow it.
type possible struct {
	source int
	time   int
	wrong  []bool
}

func (p possible) count() int {
	n := 0
	for _, is := range p.wrong {
		if is {
			n++
		}
	}
	return n
}

func possibleByDefinition(s gauge.Site, c gauge.Case) []possible {
	var l []possible
	wrong := func(bounds []wave.Bound, time int) []bool {
		var l []bool
		for _, x := range c.Readings {
			l = append(l, !allowsByDefinition(s, bounds[s.Gauges[x.Gauge].Cell], x, time))
		}
		return l
	}
	for i, x := range c.Sources {
		bounds := boundsOf(s, x)
		for time := x.Time.Lo; time <= x.Time.Hi; time++ {
			l = append(l, possible{i, time, wrong(bounds, time)})
		}
	}
	if c.Quiet {
		never := slices.Repeat([]wave.Bound{{Arrive: sp(api.Never)}}, len(s.Grid.Ground))
		l = append(l, possible{-1, 0, wrong(never, api.MaxTime)})
		for i, x := range c.Readings {
			if is := l[len(l)-1].wrong[i]; x.Kind == gauge.Came && !is || x.Kind == gauge.Calm && is {
				panic("no wave")
			}
		}
	}
	return l
}

func leftByDefinition(c gauge.Case, all []possible) ([]api.Source, bool) {
	isCalm := false
	times := make([][]int, len(c.Sources))
	for _, p := range all {
		switch {
		case p.count() > c.False:
		case p.source < 0:
			isCalm = true
		default:
			times[p.source] = append(times[p.source], p.time)
		}
	}
	var l []api.Source
	for i, x := range c.Sources {
		if len(times[i]) > 0 {
			x.Time = sp(slices.Min(times[i]), slices.Max(times[i]))
			l = append(l, x)
		}
	}
	return l, isCalm
}

func judgeByDefinition(c gauge.Case, all []possible) []int {
	var l []int
	for i := range c.Readings {
		allowed, remaining := 0, 0
		for _, p := range all {
			if p.count() > c.False {
				continue
			}
			remaining++
			if !p.wrong[i] {
				allowed++
			}
		}
		switch {
		case remaining > 0 && allowed == remaining:
			l = append(l, gauge.Sure)
		case allowed == 0:
			l = append(l, gauge.False)
		default:
			l = append(l, gauge.Open)
		}
	}
	return l
}

func agreeByDefinition(all []possible) int {
	least := -1
	for _, p := range all {
		if n := p.count(); least < 0 || n < least {
			least = n
		}
	}
	return least
}

// P6.4, P6.5, P6.6: what is left, what is known of the readings, and how many of them are false at least, by definition.
func TestLeftByDefinition(t *testing.T) {
	r := dice(20)
	var struck, narrowed, calms, storms int
	judged := map[int]int{}
	for k := range 2000 {
		s, c := randomCase(r)
		all := possibleByDefinition(s, c)
		want, wantCalm := leftByDefinition(c, all)
		left, isCalm, e := gauge.Left(s, c)
		if e != api.OK || !slices.Equal(left, want) || isCalm != wantCalm {
			t.Error("Left", k, s, c, left, isCalm, e)
		}
		l, e := gauge.Judge(s, c)
		if e != api.OK || !slices.Equal(l, judgeByDefinition(c, all)) {
			t.Error("Judge", k, s, c, l, e)
		}
		if n, e := gauge.Agree(s, c); e != api.OK || n != agreeByDefinition(all) {
			t.Error("Agree", k, s, c, n, e)
		}
		struck += len(c.Sources) - len(left)
		if len(left) == len(c.Sources) && !slices.Equal(left, c.Sources) {
			narrowed++
		}
		if c.Quiet && isCalm {
			calms++
		} else if c.Quiet {
			storms++
		}
		for _, n := range l {
			judged[n]++
		}
	}
	if struck < 700 || narrowed < 70 || min(calms, storms, judged[gauge.Sure], judged[gauge.Open], judged[gauge.False]) < 400 {
		t.Error("few cases:", struck, narrowed, calms, storms, judged)
	}
}

// P6.6: with the number that Agree returns a possibility remains, with one less none does.
func TestAgreeIsLeast(t *testing.T) {
	r := dice(21)
	for k := range 500 {
		s, c := randomCase(r)
		if r.IntN(10) == 0 {
			c.Sources = nil
		}
		n, e := gauge.Agree(s, c)
		if e != api.OK || n > len(c.Readings) || (n < 0) != (len(c.Sources) == 0 && !c.Quiet) {
			t.Error(k, n, e)
		}
		for f := range gauge.MaxFalse + 1 {
			c.False = f
			left, isCalm, e := gauge.Left(s, c)
			if e != api.OK || n >= 0 && (len(left) > 0 || isCalm) != (f >= n) || n < 0 && (len(left) > 0 || isCalm) {
				t.Error(k, n, f, left, isCalm, e)
			}
			if again, e := gauge.Agree(s, c); e != api.OK || again != n {
				t.Error(k, n, f, again, e)
			}
		}
	}
}

// fault is what can be wrong with a case.
type fault struct {
	part string
	e    api.Errno
	set  func(*gauge.Case)
}

// faults are in the order in which the functions look for them.
func faults() []fault {
	l := []fault{
		{"many sources", api.ErrMany, func(c *gauge.Case) { c.Sources = slices.Repeat(c.Sources, 257) }},
		{"many sources", api.ErrMany, func(c *gauge.Case) { c.Sources = make([]api.Source, 257) }},
	}
	for x, e := range badSources() {
		l = append(l, fault{"source", e, func(c *gauge.Case) { c.Sources = append(c.Sources, x) }})
	}
	l = append(l, fault{"many readings", api.ErrMany, func(c *gauge.Case) { c.Readings = slices.Repeat(c.Readings[:1], 41) }})
	l = append(l, fault{"many readings", api.ErrMany, func(c *gauge.Case) { c.Readings = make([]gauge.Reading, 41) }})
	for x, e := range badReadings() {
		l = append(l, fault{"reading", e, func(c *gauge.Case) { c.Readings = append(c.Readings, x) }})
	}
	for _, f := range []int{-1, 9, -1 << 63, 1<<63 - 1} {
		l = append(l, fault{"f", api.ErrRange, func(c *gauge.Case) { c.False = f }})
	}
	return l
}

// P6.4, P6.5, P6.6, R1, R2: of the errors of a case the one named first is returned, before those of numbers and proofs, with zero values beside it.
func TestCaseErrors(t *testing.T) {
	fair := gauge.Case{Sources: []api.Source{exampleX()}, Quiet: true, Readings: []gauge.Reading{calm(0, sp(0)), calm(1, sp(0))}}
	l := faults()
	for i, first := range l {
		c := fair
		first.set(&c)
		expect(t, i, first.e, callsWithCase(exampleS(), c, 0, nil)...)
		expect(t, i, first.e, callsWithCase(exampleS(), c, -1, []int{-1})...)
		for k, second := range l[i+1:] {
			if second.part == first.part {
				continue
			}
			c := fair
			first.set(&c)
			second.set(&c)
			expect(t, [2]int{i, k}, first.e, callsWithCase(exampleS(), c, -1, []int{-1})...)
		}
	}
}

// R1, R6: the first source, and the first reading, with an error decides.
func TestFirstOneDecides(t *testing.T) {
	fair := gauge.Case{Sources: []api.Source{exampleX()}, Readings: []gauge.Reading{came(0, sp(20000))}}
	for first, e := range badSources() {
		for second := range badSources() {
			c := fair
			c.Sources = []api.Source{exampleX(), first, second}
			expect(t, [2]api.Source{first, second}, e, callLeft(exampleS(), c))
		}
	}
	for first, e := range badReadings() {
		for _, second := range []gauge.Reading{{}, came(2, sp(0)), came(1, sp(-1))} {
			c := fair
			c.Readings = []gauge.Reading{fair.Readings[0], first, second}
			expect(t, [2]gauge.Reading{first, second}, e, callLeft(exampleS(), c))
		}
	}
}

// P6.4, R7: 256 sources, 40 readings, and 8 false ones are not too many.
func TestCaseLimits(t *testing.T) {
	c := gauge.Case{Sources: slices.Repeat([]api.Source{exampleX()}, 256), Quiet: true, Readings: slices.Repeat([]gauge.Reading{calm(1, sp(0))}, 40), False: 8}
	for i := range 8 {
		c.Readings[39-i] = height(0, 20000, sp(1000000000))
	}
	l, isCalm, e := gauge.Left(exampleS(), c)
	if e != api.OK || !isCalm || !slices.Equal(l, c.Sources) {
		t.Error(len(l), isCalm, e)
	}
	if n, e := gauge.Agree(exampleS(), c); e != api.OK || n != 8 {
		t.Error(n, e)
	}
	want := append(slices.Repeat([]int{gauge.Sure}, 32), slices.Repeat([]int{gauge.False}, 8)...)
	if l, e := gauge.Judge(exampleS(), c); e != api.OK || !slices.Equal(l, want) {
		t.Error(l, e)
	}
	c.False = 7
	if proof, isFalse, e := gauge.Prove(exampleS(), c, 0); e != api.OK || !isFalse || !slices.Equal(proof, []int{32, 33, 34, 35, 36, 37, 38, 39}) {
		t.Error(proof, isFalse, e)
	}
	expect(t, "f", api.OK, callsWithCase(exampleS(), c, 39, nil)[:3]...)
}
