package wave_test

import (
	"math"
	"math/rand/v2"
	"slices"
	"testing"

	"tidewall/api"
	"tidewall/wave"
)

// sp is a span, or, with one number, a point.
func sp(lo int, hi ...int) api.Span {
	if len(hi) == 0 {
		return api.Span{Lo: lo, Hi: lo}
	}
	return api.Span{Lo: lo, Hi: hi[0]}
}

// never is the time of a cell to which no water comes.
func never() api.Span { return sp(api.Never) }

func spanIn(a, b api.Span) bool { return a.Lo >= b.Lo && a.Hi <= b.Hi }

func boundIn(a, b wave.Bound) bool {
	return spanIn(a.Arrive, b.Arrive) && spanIn(a.Rise, b.Rise) && spanIn(a.Top, b.Top) && spanIn(a.Flow, b.Flow)
}

func isValid(b wave.Bound) bool {
	return b.Arrive.Lo <= b.Arrive.Hi && b.Rise.Lo <= b.Rise.Hi && b.Top.Lo <= b.Top.Hi && b.Flow.Lo <= b.Flow.Hi
}

func dice(seed uint64) *rand.Rand { return rand.New(rand.NewPCG(seed, 1)) }

// within is a random span within another one, often with an end of it, and often a point.
func within(r *rand.Rand, s api.Span) api.Span {
	lo := s.Lo + r.IntN(s.Hi-s.Lo+1)
	if r.IntN(4) == 0 {
		lo = s.Lo
	}
	hi := lo + r.IntN(s.Hi-lo+1)
	switch r.IntN(4) {
	case 0:
		hi = s.Hi
	case 1:
		hi = lo
	}
	return sp(lo, hi)
}

func row(size int, ground ...api.Span) api.Grid {
	return api.Grid{Wide: len(ground), High: 1, Size: size, Ground: ground}
}

func flat(wide, high, size int, ground api.Span) api.Grid {
	return api.Grid{Wide: wide, High: high, Size: size, Ground: slices.Repeat([]api.Span{ground}, wide*high)}
}

// exampleG is the grid G of the chapter's examples.
func exampleG() api.Grid { return row(1000, sp(-40000), sp(-40000), sp(-1000), sp(300)) }

func exampleModel() wave.Model { return wave.Model{Keep: sp(1024), Land: sp(100), Loss: sp(10)} }

// exampleS is the source S of the chapter's examples.
func exampleS() api.Source { return api.Source{Kind: api.Slide, Class: 7} }

func source(kind, cell, class int, time api.Span) api.Source {
	return api.Source{Kind: kind, Cell: cell, Class: class, Time: time}
}

func start(cell int, time, rise api.Span) wave.Start {
	return wave.Start{Cell: cell, Time: time, Rise: rise}
}

// randomGround has deep and shallow water, land, and ground of which it is not known whether it is land.
func randomGround(r *rand.Rand) api.Span {
	lo := -r.IntN([]int{30, 3000, 40000, api.MaxGround + 1}[r.IntN(4)])
	if r.IntN(3) == 0 {
		lo = r.IntN([]int{30, 500, api.MaxGround + 1}[r.IntN(3)])
	}
	return sp(lo, min(api.MaxGround, lo+r.IntN([]int{1, 5, 200, 5000}[r.IntN(4)])))
}

func randomGrid(r *rand.Rand, most int) api.Grid {
	g := api.Grid{Wide: 1 + r.IntN(most), High: 1 + r.IntN(most), Size: 1 + r.IntN([]int{30, api.MaxSize}[r.IntN(2)])}
	for range g.Wide * g.High {
		g.Ground = append(g.Ground, randomGround(r))
	}
	return g
}

// points is a grid of which all is known.
func points(g api.Grid) api.Grid {
	g.Ground = slices.Clone(g.Ground)
	for i, s := range g.Ground {
		g.Ground[i] = sp(s.Lo)
	}
	return g
}

func randomSea(r *rand.Rand) api.Span {
	switch r.IntN(3) {
	case 0:
		return sp(r.IntN(21) - 10)
	case 1:
		return within(r, sp(-500, 500))
	}
	return within(r, sp(-20, 20))
}

func randomModel(r *rand.Rand) wave.Model {
	return wave.Model{
		Keep: within(r, sp([]int{1, 900, 1024}[r.IntN(3)], 1024)),
		Land: within(r, sp(wave.MinLand, []int{200, wave.MaxLand}[r.IntN(2)])),
		Loss: within(r, sp(0, []int{0, 30, wave.MaxLoss}[r.IntN(3)])),
	}
}

func randomStarts(r *rand.Rand, g api.Grid) []wave.Start {
	var l []wave.Start
	for range r.IntN(5) {
		time := within(r, sp(0, []int{10, 100000, api.MaxTime}[r.IntN(3)]))
		l = append(l, start(r.IntN(len(g.Ground)), time, within(r, sp(0, []int{20, 500, wave.MaxRise}[r.IntN(3)]))))
	}
	return l
}

func randomSource(r *rand.Rand, g api.Grid) api.Source {
	return source(1+r.IntN(3), r.IntN(len(g.Ground)), 1+r.IntN(api.MaxClass), within(r, sp(0, []int{10, 100000, api.MaxTime}[r.IntN(3)])))
}

func randomSources(r *rand.Rand, g api.Grid, n int) []api.Source {
	var l []api.Source
	for range n {
		l = append(l, randomSource(r, g))
	}
	return l
}

// spread returns the bounds of a call that has no error.
func spread(t *testing.T, g api.Grid, sea api.Span, m wave.Model, l ...wave.Start) []wave.Bound {
	t.Helper()
	bounds, e := wave.Spread(g, sea, m, l)
	if e != api.OK || len(bounds) != len(g.Ground) {
		t.Fatal(g, sea, m, l, len(bounds), e)
	}
	return bounds
}

// badGrids are grids that are not valid, each with its error.
func badGrids() []struct {
	g api.Grid
	e api.Errno
} {
	with := func(change func(*api.Grid)) api.Grid {
		g := exampleG()
		change(&g)
		return g
	}
	return []struct {
		g api.Grid
		e api.Errno
	}{
		{api.Grid{}, api.ErrRange},
		{with(func(g *api.Grid) { g.Wide = api.MaxSide + 1 }), api.ErrRange},
		{with(func(g *api.Grid) { g.High = math.MinInt }), api.ErrRange},
		{with(func(g *api.Grid) { g.Size = 0 }), api.ErrRange},
		{with(func(g *api.Grid) { g.Size = api.MaxSize + 1 }), api.ErrRange},
		{with(func(g *api.Grid) { g.Ground = nil }), api.ErrShape},
		{with(func(g *api.Grid) { g.Ground = g.Ground[:3] }), api.ErrShape},
		{with(func(g *api.Grid) { g.Wide = 5 }), api.ErrShape},
		{with(func(g *api.Grid) { g.Ground[3] = sp(1, 0) }), api.ErrRange},
		{with(func(g *api.Grid) { g.Ground[0] = sp(-api.MaxGround-1, 0) }), api.ErrRange},
	}
}

// badSpans are spans that do not lie from least to greatest, or are not valid.
func badSpans(least, greatest int) []api.Span {
	return []api.Span{
		sp(least+1, least), sp(greatest, least), sp(least-1, greatest), sp(least, greatest+1), sp(least - 1), sp(greatest + 1), sp(math.MinInt), sp(math.MaxInt),
		sp(math.MinInt, math.MaxInt), sp(math.MaxInt, math.MinInt), sp(least, math.MaxInt), sp(math.MinInt, greatest),
	}
}

func badModels() []wave.Model {
	l := []wave.Model{{}}
	with := func(change func(*wave.Model)) {
		m := exampleModel()
		change(&m)
		l = append(l, m)
	}
	for _, bad := range badSpans(1, 1024) {
		with(func(m *wave.Model) { m.Keep = bad })
	}
	for _, bad := range badSpans(10, 100000) {
		with(func(m *wave.Model) { m.Land = bad })
	}
	for _, bad := range badSpans(0, 1000) {
		with(func(m *wave.Model) { m.Loss = bad })
	}
	return l
}

// badStarts are starts that are wrong in the grid of the examples, each with its error.
func badStarts() map[wave.Start]api.Errno {
	l := map[wave.Start]api.Errno{}
	for _, cell := range []int{-1, 4, math.MinInt, math.MaxInt} {
		l[start(cell, sp(0), sp(0))] = api.ErrNone
		l[start(cell, sp(1, 0), sp(-1))] = api.ErrNone
	}
	for _, bad := range badSpans(0, api.MaxTime) {
		l[start(3, bad, sp(5000))] = api.ErrRange
	}
	for _, bad := range badSpans(0, 5000) {
		l[start(0, sp(0), bad)] = api.ErrRange
	}
	return l
}

// badSources are sources that are wrong in the grid of the examples, each with its error.
func badSources() map[api.Source]api.Errno {
	l := map[api.Source]api.Errno{}
	for _, kind := range []int{0, 4, -1, math.MinInt, math.MaxInt} {
		l[source(kind, 0, 1, sp(0))] = api.ErrArg
		l[source(kind, 4, 11, sp(1, 0))] = api.ErrArg
	}
	for _, cell := range []int{-1, 4, math.MinInt, math.MaxInt} {
		l[source(api.Quake, cell, 1, sp(0))] = api.ErrNone
		l[source(api.Volcano, cell, 0, sp(1, 0))] = api.ErrNone
	}
	for _, class := range []int{0, -1, 11, 63, 64, math.MinInt, math.MaxInt} {
		l[source(api.Slide, 3, class, sp(0))] = api.ErrRange
	}
	for _, bad := range badSpans(0, api.MaxTime) {
		l[source(api.Quake, 3, 10, bad)] = api.ErrRange
	}
	return l
}

// P5.1: the spans of models.
func TestCheckErrors(t *testing.T) {
	for k, m := range badModels() {
		if e := wave.Check(m); e != api.ErrRange {
			t.Error(k, m, e)
		}
	}
}

// P5.1, R7: the least and the greatest models are valid.
func TestCheckLimits(t *testing.T) {
	for k, m := range []wave.Model{exampleModel(), {Keep: sp(1), Land: sp(10), Loss: sp(0)}, {Keep: sp(1024), Land: sp(100000), Loss: sp(1000)}, {Keep: sp(1, 1024), Land: sp(10, 100000), Loss: sp(0, 1000)}} {
		if e := wave.Check(m); e != api.OK {
			t.Error(k, m, e)
		}
	}
}

// call is a call of any function, with the length of what it returns beside its error: 0 for zero values.
type call struct {
	name string
	e    api.Errno
	size int
}

func expect(t *testing.T, k any, want api.Errno, calls ...call) {
	t.Helper()
	for _, c := range calls {
		if c.e != want || want != api.OK && c.size != 0 {
			t.Error(c.name, k, c.e, want, c.size)
		}
	}
}

func callStarts(g api.Grid, s api.Source) call {
	l, e := wave.Starts(g, s)
	return call{"Starts", e, len(l)}
}

func callSpread(g api.Grid, sea api.Span, m wave.Model, l []wave.Start) call {
	bounds, e := wave.Spread(g, sea, m, l)
	return call{"Spread", e, len(bounds)}
}

func callOne(g api.Grid, sea api.Span, m wave.Model, s api.Source) call {
	bounds, e := wave.One(g, sea, m, s)
	return call{"One", e, len(bounds)}
}

func callWave(g api.Grid, sea api.Span, m wave.Model, l []api.Source) call {
	bounds, e := wave.Wave(g, sea, m, l)
	return call{"Wave", e, len(bounds)}
}

func callDry(g api.Grid, sea api.Span, l []wave.Bound) call {
	dry, e := wave.Dry(g, sea, l)
	return call{"Dry", e, len(dry)}
}

// P5.1 to P5.4: the grid, the sea and the model come first, in this order (R1), with zero values beside their errors (R2).
func TestWatersComeFirst(t *testing.T) {
	wrong, starts, sources := sp(1, 0), make([]wave.Start, 513), make([]api.Source, 257)
	for k, bad := range badGrids() {
		expect(t, k, bad.e, callStarts(bad.g, api.Source{}), callStarts(bad.g, exampleS()))
		for _, m := range []wave.Model{{}, exampleModel()} {
			expect(t, k, bad.e, callSpread(bad.g, wrong, m, starts), callOne(bad.g, wrong, m, api.Source{}), callWave(bad.g, wrong, m, sources), callDry(bad.g, wrong, nil))
		}
	}
	for k, sea := range badSpans(-20000, 20000) {
		for _, m := range []wave.Model{{}, exampleModel()} {
			expect(t, k, api.ErrRange, callSpread(exampleG(), sea, m, starts), callOne(exampleG(), sea, m, api.Source{}), callWave(exampleG(), sea, m, sources))
		}
		expect(t, k, api.ErrRange, callSpread(exampleG(), sea, exampleModel(), nil), callOne(exampleG(), sea, exampleModel(), exampleS()), callWave(exampleG(), sea, exampleModel(), nil))
		expect(t, k, api.ErrRange, callDry(exampleG(), sea, nil), callDry(exampleG(), sea, make([]wave.Bound, 4)))
	}
	for k, m := range badModels() {
		expect(t, k, api.ErrRange, callSpread(exampleG(), sp(0), m, starts), callOne(exampleG(), sp(0), m, api.Source{}), callWave(exampleG(), sp(0), m, sources))
		expect(t, k, api.ErrRange, callSpread(exampleG(), sp(0), m, nil), callOne(exampleG(), sp(0), m, exampleS()), callWave(exampleG(), sp(0), m, nil))
	}
	for k, sea := range []api.Span{sp(-20000), sp(20000), sp(-20000, 20000)} {
		expect(t, k, api.OK, callSpread(exampleG(), sea, exampleModel(), nil), callOne(exampleG(), sea, exampleModel(), exampleS()), callWave(exampleG(), sea, exampleModel(), nil), callDry(exampleG(), sea, make([]wave.Bound, 4)))
	}
}

// P5.1, P5.3, R8: the error of a source, also of one behind others.
func TestSourceErrors(t *testing.T) {
	g, m := exampleG(), exampleModel()
	for s, e := range badSources() {
		expect(t, s, e, callStarts(g, s), callOne(g, sp(0), m, s), callWave(g, sp(0), m, []api.Source{s}), callWave(g, sp(0), m, []api.Source{exampleS(), exampleS(), s, {}}))
	}
	none, wrong := source(api.Quake, 4, 1, sp(0)), source(api.Quake, 3, 0, sp(0))
	expect(t, "first", api.ErrNone, callWave(g, sp(0), m, []api.Source{exampleS(), none, wrong}))
	expect(t, "first", api.ErrRange, callWave(g, sp(0), m, []api.Source{exampleS(), wrong, none}))
	for k, s := range []api.Source{source(api.Quake, 3, 10, sp(0, api.MaxTime)), source(api.Volcano, 0, 1, sp(api.MaxTime)), source(api.Slide, 0, 1, sp(0))} {
		expect(t, k, api.OK, callStarts(g, s), callOne(g, sp(0), m, s), callWave(g, sp(0), m, []api.Source{s}))
	}
}

// P5.2: the error of a start, also of one behind others.
func TestStartErrors(t *testing.T) {
	g, m, fair := exampleG(), exampleModel(), start(3, sp(0, api.MaxTime), sp(0, 5000))
	for s, e := range badStarts() {
		expect(t, s, e, callSpread(g, sp(0), m, []wave.Start{s}), callSpread(g, sp(0), m, []wave.Start{fair, fair, s, {Cell: 9}}))
	}
	none, wrong := start(4, sp(0), sp(0)), start(0, sp(1, 0), sp(0))
	expect(t, "first", api.ErrNone, callSpread(g, sp(0), m, []wave.Start{fair, none, wrong}))
	expect(t, "first", api.ErrRange, callSpread(g, sp(0), m, []wave.Start{fair, wrong, none}))
	for k, s := range []wave.Start{{}, fair, start(0, sp(api.MaxTime), sp(5000)), start(0, sp(0), sp(0))} {
		expect(t, k, api.OK, callSpread(g, sp(0), m, []wave.Start{s}))
	}
}

// P5.2, P5.3, R7: 512 starts and 256 sources are not too many; one more is, whatever they are.
func TestManyStartsAndSources(t *testing.T) {
	g, m := exampleG(), exampleModel()
	starts := slices.Repeat([]wave.Start{start(0, sp(0), sp(100))}, 513)
	expect(t, "starts", api.OK, callSpread(g, sp(0), m, starts[:512]))
	expect(t, "starts", api.ErrMany, callSpread(g, sp(0), m, starts), callSpread(g, sp(0), m, slices.Repeat([]wave.Start{{Cell: -1}}, 513)))
	expect(t, "starts", api.ErrNone, callSpread(g, sp(0), m, slices.Repeat([]wave.Start{{Cell: -1}}, 512)))
	sources := slices.Repeat([]api.Source{exampleS()}, 257)
	expect(t, "sources", api.OK, callWave(g, sp(0), m, sources[:256]))
	expect(t, "sources", api.ErrMany, callWave(g, sp(0), m, sources), callWave(g, sp(0), m, make([]api.Source, 257)))
	expect(t, "sources", api.ErrArg, callWave(g, sp(0), m, make([]api.Source, 256)))
}

// P5.4: one bound for each cell.
func TestDryShape(t *testing.T) {
	for _, n := range []int{0, 1, 3, 5, 8} {
		expect(t, n, api.ErrShape, callDry(exampleG(), sp(0), make([]wave.Bound, n)))
	}
	expect(t, 4, api.OK, callDry(exampleG(), sp(0), make([]wave.Bound, 4)))
}
