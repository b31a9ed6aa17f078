package surge_test

import (
	"math"
	"slices"
	"testing"

	"tidewall/api"
	"tidewall/surge"
)

// P0 and R5: whatever integers they are given, all functions end without a panic, and never take what is out of range for valid.
func TestAnyIntegers(t *testing.T) {
	r := dice(40)
	odd := []int{math.MinInt, math.MinInt + 1, -1<<40 - 1, -1 << 40, -4000001, -1000001, -1000000, -20001, -20000, -1, 0, 0, 1, 1, 2, 7, 8, 255, 256, 1024, 1025, 10000, 10001, 20000, 20001, 1 << 32, 1000000, 1000001, 4000000, 1 << 40, 1<<40 + 1, 1 << 62, math.MaxInt - 1, math.MaxInt}
	pick := func() int { return odd[r.IntN(len(odd))] }
	span := func(least, greatest int) api.Span {
		if r.IntN(10) > 0 {
			return within(r, sp(least, greatest))
		}
		return sp(pick(), pick())
	}
	isSpan := func(s api.Span, least, greatest int) bool {
		return s.Lo <= s.Hi && s.Lo >= least && s.Hi <= greatest
	}
	first := func(l ...api.Errno) api.Errno {
		i := slices.IndexFunc(l, func(e api.Errno) bool { return e != api.OK })
		if i < 0 {
			return api.OK
		}
		return l[i]
	}
	unless := func(holds bool, e api.Errno) api.Errno {
		if holds {
			return api.OK
		}
		return e
	}
	valid := 0
	for range 30000 {
		g := exampleG()
		if r.IntN(20) == 0 {
			g.Wide, g.Size = pick(), pick()
		}
		badGrid := unless(isSpan(sp(g.Wide, 24), 1, 24) && isSpan(sp(g.Size), 1, 10000), api.ErrRange)
		if badGrid == api.OK && g.Wide != 4 {
			badGrid = api.ErrShape
		}
		sea, m := span(-20000, 20000), surge.Model{Drag: span(1, 10000), Lag: span(1, 1024)}
		w := surge.Wind{Speed: span(0, 10000), Dirs: 1 + r.IntN(260), Low: span(-20000, 20000)}
		s := surge.Storm{X: span(-1000000, 1000000), Y: span(-1000000, 1000000), Radius: pick(), Most: span(0, 10000), Low: span(0, 20000)}
		start, dir, cell := span(-1<<40, 1<<40), r.IntN(9), r.IntN(5)
		if r.IntN(10) == 0 {
			w.Dirs, dir, cell = pick(), pick(), pick()
		}
		badSea := unless(isSpan(sea, -20000, 20000), api.ErrRange)
		badModel := unless(isSpan(m.Drag, 1, 10000) && isSpan(m.Lag, 1, 1024), api.ErrRange)
		badCell := unless(isSpan(sp(cell), 0, 3), api.ErrNone)
		badDir := unless(isSpan(sp(dir), 0, 7), api.ErrRange)
		badSpeed := unless(isSpan(w.Speed, 0, 10000), api.ErrRange)
		badWind := first(badSpeed, unless(isSpan(w.Low, -20000, 20000) && isSpan(sp(w.Dirs), 1, 255), api.ErrRange))
		badStart := unless(isSpan(start, -1<<40, 1<<40), api.ErrRange)
		badStorm := unless(isSpan(s.X, -1000000, 1000000) && isSpan(s.Y, -1000000, 1000000) && isSpan(sp(s.Radius), 1, 1000000) && isSpan(s.Most, 0, 10000) && isSpan(s.Low, 0, 20000), api.ErrRange)

		check, checkWind := surge.Check(m), surge.CheckWind(w)
		_, _, fetch := surge.Fetch(g, sea, cell, dir)
		_, setup := surge.Setup(g, sea, m, cell, dir, w.Speed)
		_, steady := surge.Steady(g, sea, m, cell, w)
		_, run := surge.Run(g, sea, m, cell, start, []surge.Wind{exampleWind(), w})
		_, field := surge.Field(g, sea, m, start, [][]surge.Wind{{exampleWind(), w, exampleWind(), exampleWind()}})
		_, blow := surge.Blow(g, s, cell)
		_, centimetres := surge.Centimetres(start)
		_, directions := surge.Directions(s.X, s.Y)
		_, _, exceeds := surge.Exceeds([]api.Span{sea, start}, pick())
		got := []api.Errno{check, checkWind, fetch, setup, steady, run, field, blow, centimetres, directions, exceeds}
		want := []api.Errno{
			badModel, badWind,
			first(badGrid, badSea, badCell, badDir),
			first(badGrid, badSea, badModel, badCell, badDir, badSpeed),
			first(badGrid, badSea, badModel, badCell, badWind),
			first(badGrid, badSea, badModel, badCell, badStart, badWind),
			first(badGrid, badSea, badModel, badStart, badWind),
			first(badGrid, badStorm, badCell),
			unless(start.Lo <= start.Hi, api.ErrRange),
			unless(isSpan(s.X, -4000000, 4000000) && isSpan(s.Y, -4000000, 4000000), api.ErrRange),
			unless(sea.Lo <= sea.Hi && start.Lo <= start.Hi, api.ErrRange),
		}
		if !slices.Equal(got, want) {
			t.Error(g.Wide, g.Size, sea, m, w, s, start, dir, cell, got, want)
		}
		if run == api.OK && setup == api.OK {
			valid++
		}
	}
	if valid < 3000 {
		t.Error("few of the calls were valid:", valid)
	}
}

// R4: no call changes its arguments, nor what lies behind them.
func TestArgumentsStay(t *testing.T) {
	ground := append(exampleG().Ground, sp(77), sp(78))
	g := exampleG()
	g.Ground = ground[:4]
	winds := slices.Repeat([]surge.Wind{exampleWind(), {Speed: sp(10, 20), Dirs: 255, Low: sp(-5, 5)}}, 3)
	lists := [][]surge.Wind{winds[:4], winds[:4], winds[1:5]}
	spans := []api.Span{sp(313, 314), sp(469, 471), sp(1)}
	wantWinds, wantSpans := slices.Clone(winds), slices.Clone(spans)
	surge.CheckWind(winds[0])
	surge.Fetch(g, sp(0), 2, 4)
	surge.Setup(g, sp(0), exampleModel(), 2, 0, sp(2000))
	surge.Steady(g, sp(0), exampleModel(), 2, winds[1])
	surge.Run(g, sp(0), exampleModel(), 2, sp(0), winds[:4])
	surge.Field(g, sp(0), exampleModel(), sp(0), lists)
	surge.Field(g, sp(0), exampleModel(), sp(0), [][]surge.Wind{winds[:4], winds[:3]})
	surge.Exceeds(spans[:2], 313)
	surge.Blow(g, exampleStorm(), 0)
	if !slices.Equal(g.Ground, exampleG().Ground) || ground[4] != sp(77) || ground[5] != sp(78) {
		t.Error(ground)
	}
	if !slices.Equal(winds, wantWinds) || !slices.Equal(spans, wantSpans) || len(lists) != 3 || &lists[2][0] != &winds[1] {
		t.Error(winds, spans)
	}
}

// R4: results share no memory with each other, nor with later results.
func TestResultsAreNew(t *testing.T) {
	g := exampleG()
	for range 2 {
		sure, may, _ := surge.Fetch(g, sp(0), 2, 4)
		run, _ := surge.Run(g, sp(0), exampleModel(), 2, sp(0), []surge.Wind{exampleWind(), exampleWind()})
		field, _ := surge.Field(g, sp(0), exampleModel(), sp(3), nil)
		sure[0] = 99
		_ = append(sure[:0], 98, 97)
		if !slices.Equal(may, []int{1, 0}) || !slices.Equal(run, []api.Span{sp(313, 314), sp(469, 471)}) || !slices.Equal(field, slices.Repeat([]api.Span{sp(3)}, 4)) {
			t.Error(may, run, field)
		}
		for i := range may {
			may[i], run[i], field[i] = 99, sp(99), sp(99)
		}
	}
}

// R3: nil and empty lists are the same.
func TestNilIsEmpty(t *testing.T) {
	for k, l := range [][]surge.Wind{nil, {}} {
		if levels, e := surge.Run(exampleG(), sp(0), exampleModel(), 2, sp(1, 2), l); e != api.OK || len(levels) != 0 {
			t.Error(k, levels, e)
		}
		expect(t, k, api.ErrRange, field(exampleG(), sp(0), exampleModel(), sp(0), [][]surge.Wind{l}))
	}
	for k, l := range [][][]surge.Wind{nil, {}} {
		if levels, e := surge.Field(exampleG(), sp(0), exampleModel(), sp(1, 2), l); e != api.OK || !slices.Equal(levels, slices.Repeat([]api.Span{sp(1, 2)}, 4)) {
			t.Error(k, levels, e)
		}
	}
}

// Nothing depends on what was called before; the same call has the same result, also in several goroutines.
func TestSameCallSameResult(t *testing.T) {
	r := dice(41)
	g := square(12, 500, sp(-400, -300))
	lists := [][]surge.Wind{randomWinds(r, 144), randomWinds(r, 144)}
	want, e := surge.Field(g, sp(0), exampleModel(), sp(0), lists)
	if e != api.OK {
		t.Fatal(e)
	}
	done := make(chan []api.Span)
	for range 4 {
		go func() {
			levels, _ := surge.Field(g, sp(0), exampleModel(), sp(0), lists)
			done <- levels
		}()
	}
	for range 4 {
		if levels := <-done; !slices.Equal(levels, want) {
			t.Error("another result")
		}
	}
}
