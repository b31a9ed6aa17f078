package wave_test

import (
	"math"
	"slices"
	"testing"

	"tidewall/api"
	"tidewall/wave"
)

// P0 and R5: whatever integers they are given, all functions end without a panic, and never take what is out of range for valid.
func TestAnyIntegers(t *testing.T) {
	r := dice(40)
	odd := []int{math.MinInt, math.MinInt + 1, -1 << 40, -1200001, -1200000, -20001, -20000, -1, 0, 0, 1, 1, 2, 3, 4, 5, 9, 10, 11, 24, 25, 1000, 1001, 1024, 1025, 5000, 5001, 10000, 10001, 20000, 20001, 100000, 100001, 1200000, 1200001, 1000000000, 1000000001, 1 << 32, 1 << 40, 1 << 62, math.MaxInt - 1, math.MaxInt}
	pick := func() int { return odd[r.IntN(len(odd))] }
	number := func(least, greatest int) int {
		if r.IntN(40) > 0 {
			return least + r.IntN(greatest-least+1)
		}
		return pick()
	}
	span := func(least, greatest int) api.Span {
		if r.IntN(40) > 0 {
			return within(r, sp(least, greatest))
		}
		return sp(pick(), pick())
	}
	isSpan := func(s api.Span, least, greatest int) bool {
		return s.Lo <= s.Hi && s.Lo >= least && s.Hi <= greatest
	}
	first := func(l ...api.Errno) api.Errno {
		i := slices.IndexFunc(l, func(e api.Errno) bool { return e != api.OK })
		if i < 0 {
			return api.OK
		}
		return l[i]
	}
	unless := func(holds bool, e api.Errno) api.Errno {
		if holds {
			return api.OK
		}
		return e
	}
	valid := 0
	for range 30000 {
		g := api.Grid{Wide: number(2, 2), High: number(1, 1), Size: number(1, 10000), Ground: []api.Span{span(-1200000, 1200000), span(-1200000, 0)}}
		sea, m := span(-20000, 20000), wave.Model{Keep: span(1, 1024), Land: span(10, 100000), Loss: span(0, 1000)}
		s := start(number(0, 1), span(0, 1000000000), span(0, 5000))
		x := source(number(1, 3), number(0, 1), number(1, 10), span(0, 1000000000))
		badSides := unless(isSpan(sp(g.Wide), 1, 24) && isSpan(sp(g.High), 1, 24) && isSpan(sp(g.Size), 1, 10000), api.ErrRange)
		badShape := unless(badSides != api.OK || g.Wide*g.High == 2, api.ErrShape)
		badGround := unless(isSpan(g.Ground[0], -1200000, 1200000) && isSpan(g.Ground[1], -1200000, 1200000), api.ErrRange)
		badGrid, badSea := first(badSides, badShape, badGround), unless(isSpan(sea, -20000, 20000), api.ErrRange)
		badModel := unless(isSpan(m.Keep, 1, 1024) && isSpan(m.Land, 10, 100000) && isSpan(m.Loss, 0, 1000), api.ErrRange)
		badStart := first(unless(isSpan(sp(s.Cell), 0, 1), api.ErrNone), unless(isSpan(s.Time, 0, 1000000000) && isSpan(s.Rise, 0, 5000), api.ErrRange))
		badSource := first(unless(isSpan(sp(x.Kind), 1, 3), api.ErrArg), unless(isSpan(sp(x.Cell), 0, 1), api.ErrNone), unless(isSpan(sp(x.Class), 1, 10) && isSpan(x.Time, 0, 1000000000), api.ErrRange))

		bounds, spread := wave.Spread(g, sea, m, []wave.Start{s})
		got := []api.Errno{
			wave.Check(m), callStarts(g, x).e, spread, callOne(g, sea, m, x).e, callWave(g, sea, m, []api.Source{x}).e,
			callDry(g, sea, []wave.Bound{{Rise: span(0, 9)}, {Rise: span(0, 9)}}).e,
		}
		want := []api.Errno{
			badModel,
			first(badGrid, badSource),
			first(badGrid, badSea, badModel, badStart),
			first(badGrid, badSea, badModel, badSource),
			first(badGrid, badSea, badModel, badSource),
			first(badGrid, badSea),
		}
		if !slices.Equal(got, want) {
			t.Error(g, sea, m, s, x, got, want)
		}
		for _, b := range bounds {
			if !isValid(b) {
				t.Error(g, sea, m, s, bounds)
			}
		}
		if spread == api.OK {
			valid++
		}
	}
	if valid < 3000 {
		t.Error("few of the calls were valid:", valid)
	}
}

// R4: no call changes its arguments, nor what lies behind them.
func TestArgumentsStay(t *testing.T) {
	ground := append(exampleG().Ground, sp(77), sp(78))
	g := exampleG()
	g.Ground = ground[:4]
	starts := []wave.Start{start(2, sp(5), sp(9)), start(0, sp(0), sp(100)), start(3, sp(0), sp(1)), {Cell: 9}}
	sources := []api.Source{source(api.Volcano, 2, 3, sp(0, 5)), exampleS(), source(api.Quake, 1, 9, sp(8)), {}}
	bounds := []wave.Bound{{Rise: sp(3)}, {Rise: sp(2)}, {Rise: sp(1)}, {}, {Rise: sp(7)}}
	wantStarts, wantSources, wantBounds := slices.Clone(starts), slices.Clone(sources), slices.Clone(bounds)
	wave.Starts(g, sources[0])
	wave.Spread(g, sp(0), exampleModel(), starts[:3])
	wave.Spread(g, sp(0), exampleModel(), starts)
	wave.One(g, sp(0), exampleModel(), sources[2])
	wave.Wave(g, sp(0), exampleModel(), sources[:3])
	wave.Wave(g, sp(0), exampleModel(), sources)
	wave.Dry(g, sp(0), bounds[:4])
	wave.Dry(g, sp(0), bounds)
	if !slices.Equal(g.Ground, exampleG().Ground) || ground[4] != sp(77) || ground[5] != sp(78) {
		t.Error(ground)
	}
	if !slices.Equal(starts, wantStarts) || !slices.Equal(sources, wantSources) || !slices.Equal(bounds, wantBounds) {
		t.Error(starts, sources, bounds)
	}
}

// R4: results share no memory with arguments, nor with later results.
func TestResultsAreNew(t *testing.T) {
	want, _ := wave.One(exampleG(), sp(0), exampleModel(), exampleS())
	want = slices.Clone(want)
	g, volcano := exampleG(), source(api.Volcano, 0, 1, sp(0))
	for range 2 {
		starts, _ := wave.Starts(g, volcano)
		some, _ := wave.Starts(g, exampleS())
		spread, _ := wave.Spread(g, sp(0), exampleModel(), some)
		one, _ := wave.One(g, sp(0), exampleModel(), exampleS())
		all, _ := wave.Wave(g, sp(0), exampleModel(), []api.Source{exampleS(), exampleS()})
		dry, _ := wave.Dry(g, sp(0), make([]wave.Bound, 4))
		if !slices.Equal(starts, []wave.Start{start(0, sp(0), sp(1, 2)), start(1, sp(0), sp(1, 2))}) || !slices.Equal(dry, []bool{false, false, false, true}) {
			t.Error(starts, dry)
		}
		if !slices.Equal(spread, want) || !slices.Equal(one, want) || !slices.Equal(all, want) || !slices.Equal(g.Ground, exampleG().Ground) {
			t.Error(spread, one, all, g)
		}
		clear(starts)
		clear(some)
		clear(spread)
		clear(one)
		clear(all)
		clear(dry)
	}
}

// R3: nil and empty lists are the same.
func TestNilIsEmpty(t *testing.T) {
	g, m := exampleG(), exampleModel()
	want, e := wave.Wave(g, sp(0), m, nil)
	if e != api.OK {
		t.Fatal(e)
	}
	for k, l := range [][]api.Source{nil, {}} {
		if bounds, e := wave.Wave(g, sp(0), m, l); e != api.OK || !slices.Equal(bounds, want) {
			t.Error("Wave", k, bounds, e)
		}
	}
	for k, l := range [][]wave.Start{nil, {}} {
		if bounds, e := wave.Spread(g, sp(0), m, l); e != api.OK || !slices.Equal(bounds, want) {
			t.Error("Spread", k, bounds, e)
		}
	}
	for k, l := range [][]wave.Bound{nil, {}} {
		expect(t, k, api.ErrShape, callDry(g, sp(0), l))
	}
	for k, l := range [][]api.Span{nil, {}} {
		empty := g
		empty.Ground = l
		expect(t, k, api.ErrShape, callStarts(empty, exampleS()), callSpread(empty, sp(0), m, nil), callOne(empty, sp(0), m, exampleS()), callWave(empty, sp(0), m, nil), callDry(empty, sp(0), nil))
	}
}

// The order of starts, and of sources, does not matter.
func TestOrderDoesNotMatter(t *testing.T) {
	r := dice(41)
	for k := range 300 {
		x := randomEvent(r, 6)
		sources := randomSources(r, x.g, 4)
		want := spread(t, x.g, x.sea, x.m, x.l...)
		all, _ := wave.Wave(x.g, x.sea, x.m, sources)
		r.Shuffle(len(x.l), func(i, j int) { x.l[i], x.l[j] = x.l[j], x.l[i] })
		slices.Reverse(sources)
		if l := spread(t, x.g, x.sea, x.m, x.l...); !slices.Equal(l, want) {
			t.Error("Spread", k, x)
		}
		if l, e := wave.Wave(x.g, x.sea, x.m, sources); e != api.OK || !slices.Equal(l, all) {
			t.Error("Wave", k, x, sources)
		}
	}
}

// Nothing depends on what was called before; the same call has the same result, also in several goroutines, with the most sources in the greatest grid.
func TestSameCallSameResult(t *testing.T) {
	r := dice(42)
	g := flat(api.MaxSide, api.MaxSide, 100, sp(0))
	for cell := range g.Ground {
		g.Ground[cell] = randomGround(r)
	}
	sources := randomSources(r, g, api.MaxSources)
	want, e := wave.Wave(g, sp(-10, 10), exampleModel(), sources)
	if e != api.OK {
		t.Fatal(e)
	}
	done := make(chan []wave.Bound)
	for range 4 {
		go func() {
			bounds, _ := wave.Wave(g, sp(-10, 10), exampleModel(), sources)
			done <- bounds
		}()
	}
	for range 4 {
		if bounds := <-done; !slices.Equal(bounds, want) {
			t.Error("another result")
		}
	}
}
