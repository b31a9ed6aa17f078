package surge_test

import (
	"math"
	"math/rand/v2"
	"slices"
	"testing"

	"tidewall/api"
	"tidewall/surge"
)

// sp is a span, or, with one number, a point.
func sp(lo int, hi ...int) api.Span {
	if len(hi) == 0 {
		return api.Span{Lo: lo, Hi: lo}
	}
	return api.Span{Lo: lo, Hi: hi[0]}
}

func spanIn(a, b api.Span) bool { return a.Lo >= b.Lo && a.Hi <= b.Hi }

func dice(seed uint64) *rand.Rand { return rand.New(rand.NewPCG(seed, 1)) }

// within is a random span within another one, often with an end of it, and often a point.
func within(r *rand.Rand, s api.Span) api.Span {
	lo := s.Lo + r.IntN(s.Hi-s.Lo+1)
	if r.IntN(4) == 0 {
		lo = s.Lo
	}
	hi := lo + r.IntN(s.Hi-lo+1)
	switch r.IntN(4) {
	case 0:
		hi = s.Hi
	case 1:
		hi = lo
	}
	return sp(lo, hi)
}

// exampleG is the grid G of the chapter's examples.
func exampleG() api.Grid {
	return api.Grid{Wide: 4, High: 1, Size: 1000, Ground: []api.Span{sp(-1000), sp(-1000), sp(-500), sp(200)}}
}

func exampleModel() surge.Model { return surge.Model{Drag: sp(3000), Lag: sp(512)} }

func exampleWind() surge.Wind { return surge.Wind{Speed: sp(2000), Dirs: 1} }

func exampleStorm() surge.Storm {
	return surge.Storm{X: sp(0), Y: sp(-3000), Radius: 2000, Most: sp(4000), Low: sp(5000)}
}

func square(side, size int, ground api.Span) api.Grid {
	return api.Grid{Wide: side, High: side, Size: size, Ground: slices.Repeat([]api.Span{ground}, side*side)}
}

// randomGrid has land, deep water, and ground near the level 0.
func randomGrid(r *rand.Rand, most int) api.Grid {
	g := api.Grid{Wide: 1 + r.IntN(most), High: 1 + r.IntN(most), Size: 1 + r.IntN(api.MaxSize)}
	for range g.Wide * g.High {
		lo := -r.IntN([]int{2, 10, 3000, api.MaxGround + 1}[r.IntN(4)])
		if r.IntN(8) == 0 {
			lo = r.IntN(40)
		}
		g.Ground = append(g.Ground, sp(lo, min(api.MaxGround, lo+r.IntN([]int{1, 5, 200}[r.IntN(3)]))))
	}
	return g
}

func randomSea(r *rand.Rand) api.Span {
	if r.IntN(2) == 0 {
		return sp(r.IntN(21) - 10)
	}
	return within(r, sp(-500, 500))
}

func randomModel(r *rand.Rand) surge.Model {
	return surge.Model{Drag: within(r, sp(1, surge.MaxDrag)), Lag: within(r, sp(1, 1024))}
}

func randomWind(r *rand.Rand) surge.Wind {
	return surge.Wind{Speed: within(r, sp(0, surge.MaxSpeed)), Dirs: 1 + r.IntN(255), Low: within(r, sp(-surge.MaxLow, surge.MaxLow))}
}

func randomStorm(r *rand.Rand) surge.Storm {
	far := []int{20, 3000, surge.MaxFar}[r.IntN(3)]
	return surge.Storm{X: within(r, sp(-far, far)), Y: within(r, sp(-far, far)), Radius: 1 + r.IntN(min(5*far, surge.MaxFar)), Most: within(r, sp(0, surge.MaxSpeed)), Low: within(r, sp(0, surge.MaxLow))}
}

// badGrids are grids that are not valid, each with its error.
func badGrids() []struct {
	g api.Grid
	e api.Errno
} {
	with := func(change func(*api.Grid)) api.Grid {
		g := exampleG()
		change(&g)
		return g
	}
	return []struct {
		g api.Grid
		e api.Errno
	}{
		{api.Grid{}, api.ErrRange},
		{with(func(g *api.Grid) { g.Wide = api.MaxSide + 1 }), api.ErrRange},
		{with(func(g *api.Grid) { g.High = math.MinInt }), api.ErrRange},
		{with(func(g *api.Grid) { g.Size = 0 }), api.ErrRange},
		{with(func(g *api.Grid) { g.Size = api.MaxSize + 1 }), api.ErrRange},
		{with(func(g *api.Grid) { g.Ground = nil }), api.ErrShape},
		{with(func(g *api.Grid) { g.Ground = g.Ground[:3] }), api.ErrShape},
		{with(func(g *api.Grid) { g.Wide = 5 }), api.ErrShape},
		{with(func(g *api.Grid) { g.Ground[3] = sp(1, 0) }), api.ErrRange},
		{with(func(g *api.Grid) { g.Ground[0] = sp(-api.MaxGround-1, 0) }), api.ErrRange},
	}
}

// badSpans are spans that do not lie from least to greatest, or are not valid.
func badSpans(least, greatest int) []api.Span {
	return []api.Span{
		sp(least+1, least), sp(greatest, least), sp(least-1, greatest), sp(least, greatest+1), sp(least - 1), sp(greatest + 1), sp(math.MinInt), sp(math.MaxInt),
		sp(math.MinInt, math.MaxInt), sp(math.MaxInt, math.MinInt), sp(least, math.MaxInt), sp(math.MinInt, greatest),
	}
}

func badModels() []surge.Model {
	l := []surge.Model{{}}
	for _, s := range badSpans(1, 10000) {
		l = append(l, surge.Model{Drag: s, Lag: sp(1)})
	}
	for _, s := range badSpans(1, 1024) {
		l = append(l, surge.Model{Drag: sp(1), Lag: s})
	}
	return l
}

func badWinds() []surge.Wind {
	l := []surge.Wind{{}}
	for _, s := range badSpans(0, 10000) {
		l = append(l, surge.Wind{Speed: s, Dirs: 1})
	}
	for _, s := range badSpans(-20000, 20000) {
		l = append(l, surge.Wind{Dirs: 1, Low: s})
	}
	for _, dirs := range []int{-1, 0, 256, 257, math.MinInt, math.MaxInt} {
		l = append(l, surge.Wind{Dirs: dirs})
	}
	return l
}

func badStorms() []surge.Storm {
	l := []surge.Storm{{}}
	with := func(change func(*surge.Storm)) {
		s := exampleStorm()
		change(&s)
		l = append(l, s)
	}
	for _, bad := range badSpans(-1000000, 1000000) {
		with(func(s *surge.Storm) { s.X = bad })
		with(func(s *surge.Storm) { s.Y = bad })
	}
	for _, bad := range badSpans(0, 10000) {
		with(func(s *surge.Storm) { s.Most = bad })
	}
	for _, bad := range badSpans(0, 20000) {
		with(func(s *surge.Storm) { s.Low = bad })
	}
	for _, bad := range []int{0, -1, 1000001, math.MinInt, math.MaxInt} {
		with(func(s *surge.Storm) { s.Radius = bad })
	}
	return l
}

// P3.1: the spans and the directions of models and winds.
func TestCheckErrors(t *testing.T) {
	for k, m := range badModels() {
		if e := surge.Check(m); e != api.ErrRange {
			t.Error("Check", k, m, e)
		}
	}
	for k, w := range badWinds() {
		if e := surge.CheckWind(w); e != api.ErrRange {
			t.Error("CheckWind", k, w, e)
		}
	}
}

// P3.1, R7: the least and the greatest models and winds are valid.
func TestCheckLimits(t *testing.T) {
	for k, m := range []surge.Model{exampleModel(), {Drag: sp(1), Lag: sp(1)}, {Drag: sp(10000), Lag: sp(1024)}, {Drag: sp(1, 10000), Lag: sp(1, 1024)}} {
		if e := surge.Check(m); e != api.OK {
			t.Error("Check", k, e)
		}
	}
	for k, w := range []surge.Wind{exampleWind(), {Dirs: 1}, {Dirs: 255}, {Speed: sp(10000), Dirs: 128, Low: sp(20000)}, {Speed: sp(0, 10000), Dirs: 254, Low: sp(-20000, 20000)}, {Dirs: 2, Low: sp(-20000)}} {
		if e := surge.CheckWind(w); e != api.OK {
			t.Error("CheckWind", k, e)
		}
	}
}

// call is a call of any function, with the length of all that it returns beside its error: 0 for zero values.
type call struct {
	name string
	e    api.Errno
	size int
}

func sizeOfSpan(s api.Span) int {
	if s == (api.Span{}) {
		return 0
	}
	return 1
}

func sizeOfWind(w surge.Wind) int {
	if w == (surge.Wind{}) {
		return 0
	}
	return 1
}

// callsAt calls all functions that have a sea and a cell; those without a model only if it is valid.
func callsAt(g api.Grid, sea api.Span, m surge.Model, cell, dir int, speed, start api.Span, l []surge.Wind) []call {
	var calls []call
	if surge.Check(m) == api.OK {
		sure, may, e := surge.Fetch(g, sea, cell, dir)
		calls = append(calls, call{"Fetch", e, len(sure) + len(may)})
	}
	setup, e := surge.Setup(g, sea, m, cell, dir, speed)
	calls = append(calls, call{"Setup", e, sizeOfSpan(setup)})
	steady, e := surge.Steady(g, sea, m, cell, l[0])
	calls = append(calls, call{"Steady", e, sizeOfSpan(steady)})
	run, e := surge.Run(g, sea, m, cell, start, l)
	return append(calls, call{"Run", e, len(run)})
}

func field(g api.Grid, sea api.Span, m surge.Model, start api.Span, l [][]surge.Wind) call {
	levels, e := surge.Field(g, sea, m, start, l)
	return call{"Field", e, len(levels)}
}

func expect(t *testing.T, k int, want api.Errno, calls ...call) {
	t.Helper()
	for _, c := range calls {
		if c.e != want || want != api.OK && c.size != 0 {
			t.Error(c.name, k, c.e, want, c.size)
		}
	}
}

// The error of the place: the grid, the sea, the model and the cell, each before all that comes behind it (R1), with zero values beside it (R2).
func TestPlaceComesFirst(t *testing.T) {
	wrong := sp(1, 0)
	badWind := []surge.Wind{{}}
	tooMany := make([][]surge.Wind, 501)
	for k, bad := range badGrids() {
		expect(t, k, bad.e, callsAt(bad.g, wrong, surge.Model{}, -1, 8, wrong, wrong, badWind)...)
		expect(t, k, bad.e, callsAt(bad.g, wrong, exampleModel(), -1, 8, wrong, wrong, badWind)...)
		expect(t, k, bad.e, field(bad.g, wrong, surge.Model{}, wrong, tooMany))
		w, e := surge.Blow(bad.g, surge.Storm{}, -1)
		expect(t, k, bad.e, call{"Blow", e, sizeOfWind(w)})
	}
	for k, sea := range badSpans(-20000, 20000) {
		expect(t, k, api.ErrRange, callsAt(exampleG(), sea, exampleModel(), -1, 0, sp(0), sp(0), []surge.Wind{exampleWind()})...)
		expect(t, k, api.ErrRange, field(exampleG(), sea, exampleModel(), sp(0), nil), field(exampleG(), sea, exampleModel(), sp(0), tooMany))
	}
	for k, m := range badModels() {
		expect(t, k, api.ErrRange, callsAt(exampleG(), sp(0), m, -1, 0, sp(0), sp(0), []surge.Wind{exampleWind()})...)
		expect(t, k, api.ErrRange, field(exampleG(), sp(0), m, sp(0), nil), field(exampleG(), sp(0), m, sp(0), tooMany))
	}
	for k, cell := range []int{-1, 4, math.MinInt, math.MaxInt} {
		expect(t, k, api.ErrNone, callsAt(exampleG(), sp(0), exampleModel(), cell, 8, wrong, wrong, badWind)...)
		expect(t, k, api.ErrNone, callsAt(exampleG(), sp(0), exampleModel(), cell, 0, sp(0), sp(0), []surge.Wind{exampleWind()})...)
	}
}

// R7: the greatest and the least seas are valid.
func TestSeaLimits(t *testing.T) {
	for k, sea := range []api.Span{sp(-20000), sp(20000), sp(-20000, 20000)} {
		expect(t, k, api.OK, callsAt(exampleG(), sea, exampleModel(), 0, 0, sp(0), sp(0), []surge.Wind{exampleWind()})...)
		expect(t, k, api.OK, field(exampleG(), sea, exampleModel(), sp(0), nil))
	}
}

// P3.2, P3.3: what is wrong with a direction, a speed, a wind and a start.
func TestErrorsBehindThePlace(t *testing.T) {
	g, m := exampleG(), exampleModel()
	for k, dir := range []int{-1, 8, math.MinInt, math.MaxInt} {
		sure, may, e := surge.Fetch(g, sp(0), 2, dir)
		expect(t, k, api.ErrRange, call{"Fetch", e, len(sure) + len(may)})
		s, e := surge.Setup(g, sp(0), m, 2, dir, sp(2000))
		expect(t, k, api.ErrRange, call{"Setup", e, sizeOfSpan(s)})
	}
	for k, speed := range badSpans(0, 10000) {
		s, e := surge.Setup(g, sp(0), m, 2, 0, speed)
		expect(t, k, api.ErrRange, call{"Setup", e, sizeOfSpan(s)})
	}
	for k, w := range badWinds() {
		s, e := surge.Steady(g, sp(0), m, 2, w)
		expect(t, k, api.ErrRange, call{"Steady", e, sizeOfSpan(s)})
		run, e := surge.Run(g, sp(0), m, 2, sp(0), []surge.Wind{exampleWind(), exampleWind(), w})
		expect(t, k, api.ErrRange, call{"Run", e, len(run)})
		fair := slices.Repeat([]surge.Wind{exampleWind()}, 4)
		expect(t, k, api.ErrRange, field(g, sp(0), m, sp(0), [][]surge.Wind{fair, {exampleWind(), exampleWind(), exampleWind(), w}}))
	}
	for k, start := range badSpans(-surge.MaxFine, surge.MaxFine) {
		run, e := surge.Run(g, sp(0), m, 2, start, make([]surge.Wind, 501))
		expect(t, k, api.ErrRange, call{"Run", e, len(run)}, field(g, sp(0), m, start, make([][]surge.Wind, 501)), field(g, sp(0), m, start, nil))
	}
}

// P3.3, P3.4, R7: 500 winds are not too many; 501 are, whatever they are.
func TestWindLimits(t *testing.T) {
	g, m := exampleG(), exampleModel()
	fair := slices.Repeat([]surge.Wind{exampleWind()}, 500)
	run, e := surge.Run(g, sp(0), m, 2, sp(0), fair)
	if e != api.OK || len(run) != 500 {
		t.Error(len(run), e)
	}
	for k, l := range [][]surge.Wind{append(slices.Clone(fair), exampleWind()), make([]surge.Wind, 501)} {
		run, e := surge.Run(g, sp(0), m, 2, sp(0), l)
		expect(t, k, api.ErrMany, call{"Run", e, len(run)})
	}
	run, e = surge.Run(g, sp(0), m, 2, sp(0), make([]surge.Wind, 500))
	expect(t, 0, api.ErrRange, call{"Run", e, len(run)})
	lists := slices.Repeat([][]surge.Wind{fair[:4]}, 501)
	expect(t, 0, api.OK, field(g, sp(0), m, sp(0), lists[:500]))
	expect(t, 0, api.ErrMany, field(g, sp(0), m, sp(0), lists), field(g, sp(0), m, sp(0), make([][]surge.Wind, 501)))
	expect(t, 0, api.ErrRange, field(g, sp(0), m, sp(0), make([][]surge.Wind, 500)))
}

// P3.4: each list has one wind for each cell.
func TestFieldShape(t *testing.T) {
	g, m := exampleG(), exampleModel()
	fair := slices.Repeat([]surge.Wind{exampleWind()}, 6)
	for k, n := range []int{0, 1, 3, 5, 6} {
		expect(t, k, api.ErrRange, field(g, sp(0), m, sp(0), [][]surge.Wind{fair[:4], fair[:n]}), field(g, sp(0), m, sp(0), [][]surge.Wind{fair[:n], fair[:4]}))
	}
	expect(t, 0, api.OK, field(g, sp(0), m, sp(0), [][]surge.Wind{fair[:4], fair[:4]}))
}
