package quake_test

import (
	"math"
	"math/rand/v2"
	"slices"
	"testing"

	"tidewall/api"
	"tidewall/quake"
)

// sp is a span, or, with one number, a point.
func sp(lo int, hi ...int) api.Span {
	if len(hi) == 0 {
		return api.Span{Lo: lo, Hi: lo}
	}
	return api.Span{Lo: lo, Hi: hi[0]}
}

func spanIn(a, b api.Span) bool { return a.Lo >= b.Lo && a.Hi <= b.Hi }

func dice(seed uint64) *rand.Rand { return rand.New(rand.NewPCG(seed, 1)) }

// within is a random span within another one, often with an end of it, and often a point.
func within(r *rand.Rand, s api.Span) api.Span {
	lo := s.Lo + r.IntN(s.Hi-s.Lo+1)
	if r.IntN(4) == 0 {
		lo = s.Lo
	}
	hi := lo + r.IntN(s.Hi-lo+1)
	switch r.IntN(4) {
	case 0:
		hi = s.Hi
	case 1:
		hi = lo
	}
	return sp(lo, hi)
}

// exampleM, exampleS and exampleL are what the chapter's examples have.
func exampleM() quake.Model {
	return quake.Model{Wide: 5, High: 1, Size: 1000, Speed: sp(1000, 2000)}
}

func exampleS() []int { return []int{0, 4} }

func exampleL() []api.Source {
	var l []api.Source
	for cell := range 5 {
		l = append(l, source(api.Quake, cell, 5, sp(0, 10000)))
	}
	return l
}

func source(kind, cell, class int, time api.Span) api.Source {
	return api.Source{Kind: kind, Cell: cell, Class: class, Time: time}
}

func arrive(station int, time api.Span) quake.Pick {
	return quake.Pick{Kind: quake.Arrive, Station: station, Time: time}
}

func strength(station int, level api.Span) quake.Pick {
	return quake.Pick{Kind: quake.Strength, Station: station, Level: level}
}

func quiet(station int, time api.Span) quake.Pick {
	return quake.Pick{Kind: quake.Quiet, Station: station, Time: time}
}

// badSpans are spans that do not lie from least to greatest, or are not valid.
func badSpans(least, greatest int) []api.Span {
	return []api.Span{
		sp(least+1, least), sp(greatest, least), sp(least-1, greatest), sp(least, greatest+1), sp(least - 1), sp(greatest + 1), sp(math.MinInt), sp(math.MaxInt),
		sp(math.MinInt, math.MaxInt), sp(math.MaxInt, math.MinInt), sp(least, math.MaxInt), sp(math.MinInt, greatest),
	}
}

func badModels() []quake.Model {
	l := []quake.Model{{}}
	with := func(change func(*quake.Model)) {
		m := exampleM()
		change(&m)
		l = append(l, m)
	}
	for _, n := range []int{0, -1, 25, math.MinInt, math.MaxInt} {
		with(func(m *quake.Model) { m.Wide = n })
		with(func(m *quake.Model) { m.High = n })
	}
	for _, n := range []int{0, -1, 10001, math.MinInt, math.MaxInt} {
		with(func(m *quake.Model) { m.Size = n })
	}
	for _, s := range badSpans(100, 20000) {
		with(func(m *quake.Model) { m.Speed = s })
	}
	for _, s := range badSpans(0, 700000) {
		with(func(m *quake.Model) { m.Depth = s })
	}
	for _, n := range []int{-1, 1001, math.MinInt, math.MaxInt} {
		with(func(m *quake.Model) { m.Spread = n })
	}
	return l
}

// badSource is a source that is not valid in the model of the examples, with its error.
type badSource struct {
	x api.Source
	e api.Errno
}

func badSources() []badSource {
	l := []badSource{{api.Source{}, api.ErrArg}}
	for _, kind := range []int{0, -1, 4, math.MinInt, math.MaxInt} {
		l = append(l, badSource{source(kind, -1, 0, sp(1, 0)), api.ErrArg}, badSource{source(kind, 0, 1, sp(0)), api.ErrArg})
	}
	for kind := api.Quake; kind <= api.Volcano; kind++ {
		for _, cell := range []int{-1, 5, math.MinInt, math.MaxInt} {
			l = append(l, badSource{source(kind, cell, 0, sp(1, 0)), api.ErrNone}, badSource{source(kind, cell, 1, sp(0)), api.ErrNone})
		}
		for _, class := range []int{0, -1, 11, math.MinInt, math.MaxInt} {
			l = append(l, badSource{source(kind, 4, class, sp(0)), api.ErrRange})
		}
		for _, time := range badSpans(0, 1000000000) {
			l = append(l, badSource{source(kind, 4, 10, time), api.ErrRange})
		}
	}
	return l
}

// badPick is a pick that is not valid with two stations, with its error.
type badPick struct {
	p quake.Pick
	e api.Errno
}

func badPicks() []badPick {
	wrong := sp(1, 0)
	l := []badPick{{quake.Pick{}, api.ErrArg}}
	for _, kind := range []int{0, -1, 4, math.MinInt, math.MaxInt} {
		l = append(l, badPick{quake.Pick{Kind: kind, Station: 2, Time: wrong, Level: wrong}, api.ErrArg}, badPick{quake.Pick{Kind: kind}, api.ErrArg})
	}
	for kind := quake.Arrive; kind <= quake.Quiet; kind++ {
		for _, station := range []int{-1, 2, math.MinInt, math.MaxInt} {
			l = append(l, badPick{quake.Pick{Kind: kind, Station: station, Time: wrong, Level: wrong}, api.ErrNone}, badPick{quake.Pick{Kind: kind, Station: station}, api.ErrNone})
		}
	}
	for _, time := range badSpans(0, 1000000000) {
		l = append(l, badPick{arrive(0, time), api.ErrRange}, badPick{quiet(1, time), api.ErrRange})
	}
	for _, level := range badSpans(-10000, 10000) {
		l = append(l, badPick{strength(1, level), api.ErrRange})
	}
	return l
}

// call is a call of any function, with the size of all that it returns beside its error: 0 for zero values.
type call struct {
	name string
	e    api.Errno
	size int
}

func sizeOf(zero bool) int {
	if zero {
		return 0
	}
	return 1
}

func expect(t *testing.T, k int, want api.Errno, calls ...call) {
	t.Helper()
	for _, c := range calls {
		if c.e != want || want != api.OK && c.size != 0 {
			t.Error(c.name, k, c.e, want, c.size)
		}
	}
}

func callTravel(m quake.Model, from, to int) call {
	s, e := quake.Travel(m, from, to)
	return call{"Travel", e, sizeOf(s == api.Span{})}
}

func callStrengths(m quake.Model, class, from, to int) call {
	s, e := quake.Strengths(m, class, from, to)
	return call{"Strengths", e, sizeOf(s == api.Span{})}
}

func callSources(m quake.Model, cells []int, class, time api.Span) call {
	l, e := quake.Sources(m, cells, class, time)
	return call{"Sources", e, len(l)}
}

func callCheckSources(m quake.Model, l []api.Source) call {
	return call{"CheckSources", quake.CheckSources(m, l), 0}
}

func callSlides(m quake.Model, l []api.Source, lag int) call {
	left, e := quake.Slides(m, l, lag)
	return call{"Slides", e, len(left)}
}

// P4.1: the numbers and the spans of models; all functions with a model return its error first (R1), with zero values beside it (R2).
func TestModelComesFirst(t *testing.T) {
	for k, m := range badModels() {
		expect(t, k, api.ErrRange, call{"Check", quake.Check(m), 0})
		l, many, wrong := exampleL()[:1], make([]api.Source, 257), sp(1, 0)
		expect(t, k, api.ErrRange, callTravel(m, 0, 0), callStrengths(m, 5, 0, 0), callSources(m, []int{0}, sp(1), sp(0)), callCheckSources(m, l), callSlides(m, l, 0))
		expect(t, k, api.ErrRange, callTravel(m, -1, -1), callStrengths(m, 0, -1, -1), callSources(m, []int{-1}, wrong, wrong), callCheckSources(m, many), callSlides(m, many, -1))
		expect(t, k, api.ErrRange, callsWith(input{m, exampleS(), l, []quake.Pick{arrive(0, sp(8000))}, 0}, nil)...)
		expect(t, k, api.ErrRange, callsWith(input{m, make([]int, 65), many[:1], make([]quake.Pick, 65), 9}, []int{7})...)
	}
}

// P4.1, R7: the least and the greatest models are valid.
func TestModelLimits(t *testing.T) {
	for k, m := range []quake.Model{
		exampleM(),
		{Wide: 1, High: 1, Size: 1, Speed: sp(100), Depth: sp(0)},
		{Wide: 24, High: 24, Size: 10000, Speed: sp(20000), Depth: sp(700000), Spread: 1000},
		{Wide: 24, High: 1, Size: 10000, Speed: sp(100, 20000), Depth: sp(0, 700000), Spread: 1},
		{Wide: 1, High: 24, Size: 1, Speed: sp(100, 20000), Depth: sp(0, 700000), Spread: 1000},
	} {
		last := m.Wide*m.High - 1
		expect(t, k, api.OK, call{"Check", quake.Check(m), 0}, callTravel(m, 0, last), callStrengths(m, 10, last, 0))
	}
}

// P4.2: Sources goes through the cells, and the classes of each.
func TestSources(t *testing.T) {
	m := exampleM()
	for k, x := range []struct {
		cells       []int
		class, time api.Span
		want        []api.Source
	}{
		{[]int{0, 1, 2, 3, 4}, sp(5), sp(0, 10000), exampleL()},
		{[]int{1, 4}, sp(2, 4), sp(7, 9), []api.Source{source(1, 1, 2, sp(7, 9)), source(1, 1, 3, sp(7, 9)), source(1, 1, 4, sp(7, 9)), source(1, 4, 2, sp(7, 9)), source(1, 4, 3, sp(7, 9)), source(1, 4, 4, sp(7, 9))}},
		{[]int{4}, sp(10), sp(1000000000), []api.Source{source(1, 4, 10, sp(1000000000))}},
		{[]int{0}, sp(1), sp(0, 1000000000), []api.Source{source(1, 0, 1, sp(0, 1000000000))}},
		{nil, sp(1, 10), sp(0), nil},
		{[]int{}, sp(1, 10), sp(0), nil},
	} {
		l, e := quake.Sources(m, x.cells, x.class, x.time)
		if e != api.OK || !slices.Equal(l, x.want) || quake.CheckSources(m, l) != api.OK {
			t.Error(k, l, e)
		}
	}
}

// P4.2, R1, R6: the first cell with an error, then the class and the time, then how many there are.
func TestSourcesErrors(t *testing.T) {
	m := exampleM()
	wrong := sp(1, 0)
	for k, x := range []struct {
		cells []int
		want  api.Errno
	}{
		{[]int{5}, api.ErrNone}, {[]int{-1}, api.ErrNone}, {[]int{math.MinInt}, api.ErrNone}, {[]int{math.MaxInt}, api.ErrNone},
		{[]int{0, 1, 5}, api.ErrNone}, {[]int{3, 5, 2}, api.ErrNone}, {[]int{3, -1}, api.ErrNone}, {[]int{5, 3}, api.ErrNone}, {[]int{0, 1, 5, 1}, api.ErrNone},
		{[]int{0, 0}, api.ErrArg}, {[]int{1, 0}, api.ErrArg}, {[]int{3, 2, 5}, api.ErrArg}, {[]int{0, 2, 2, -1}, api.ErrArg}, {[]int{0, 3, 1}, api.ErrArg},
	} {
		expect(t, k, x.want, callSources(m, x.cells, sp(1), sp(0)), callSources(m, x.cells, wrong, wrong))
	}
	for k, class := range badSpans(1, 10) {
		expect(t, k, api.ErrRange, callSources(m, []int{0, 4}, class, sp(0)), callSources(m, nil, class, sp(0)))
	}
	for k, time := range badSpans(0, 1000000000) {
		expect(t, k, api.ErrRange, callSources(m, []int{0, 4}, sp(1), time), callSources(m, nil, sp(1), time))
	}
}

func cellsUpTo(n int) []int {
	var l []int
	for cell := range n {
		l = append(l, cell)
	}
	return l
}

// P4.2, R7: 256 sources are not too many.
func TestSourcesMany(t *testing.T) {
	m := exampleM()
	m.Wide, m.High = 24, 24
	for k, x := range []struct {
		cells int
		class api.Span
		want  api.Errno
	}{{256, sp(3), api.OK}, {257, sp(3), api.ErrMany}, {64, sp(1, 4), api.OK}, {65, sp(1, 4), api.ErrMany}, {25, sp(1, 10), api.OK}, {26, sp(1, 10), api.ErrMany}, {32, sp(3, 10), api.OK}, {33, sp(3, 10), api.ErrMany}, {576, sp(1, 10), api.ErrMany}} {
		l, e := quake.Sources(m, cellsUpTo(x.cells), x.class, sp(0))
		expect(t, k, x.want, call{"Sources", e, len(l)})
		if e == api.OK && len(l) != x.cells*(x.class.Hi-x.class.Lo+1) {
			t.Error(k, len(l))
		}
	}
	expect(t, 0, api.ErrRange, callSources(m, cellsUpTo(257), sp(1, 11), sp(0)), callSources(m, cellsUpTo(257), sp(1), sp(1, 0)))
	expect(t, 0, api.ErrArg, callSources(m, append(cellsUpTo(300), 299), sp(3), sp(0)))
}

// P4.2: the error of sources is that of the first one that has one.
func TestCheckSources(t *testing.T) {
	m := exampleM()
	fair := []api.Source{source(api.Quake, 0, 1, sp(0)), source(api.Slide, 4, 10, sp(1000000000)), source(api.Volcano, 3, 5, sp(0, 1000000000))}
	expect(t, 0, api.OK, callCheckSources(m, fair), callCheckSources(m, nil), callCheckSources(m, []api.Source{}))
	for k, bad := range badSources() {
		expect(t, k, bad.e, callCheckSources(m, []api.Source{bad.x}))
		for j, other := range badSources() {
			l := append(slices.Clone(fair), bad.x, other.x)
			expect(t, 1000*k+j, bad.e, callCheckSources(m, l), callSlides(m, l, -1))
		}
	}
	many := slices.Repeat([]api.Source{fair[1]}, 257)
	expect(t, 0, api.OK, callCheckSources(m, many[:256]))
	expect(t, 0, api.ErrMany, callCheckSources(m, many), callCheckSources(m, make([]api.Source, 257)), callSlides(m, make([]api.Source, 257), -1))
	expect(t, 0, api.ErrArg, callCheckSources(m, make([]api.Source, 256)))
}
