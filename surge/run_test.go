package surge_test

import (
	"math"
	"math/rand/v2"
	"slices"
	"testing"

	"tidewall/api"
	"tidewall/surge"
)

// behind is the level behind a wind, by its definition.
func behind(lag, z, s api.Span) api.Span {
	shareLo, shareHi := lag.Hi, lag.Lo
	if s.Lo >= z.Lo {
		shareLo = lag.Lo
	}
	if s.Hi >= z.Hi {
		shareHi = lag.Hi
	}
	return sp(z.Lo+rounded(1024, false, shareLo, s.Lo-z.Lo), z.Hi+rounded(1024, true, shareHi, s.Hi-z.Hi))
}

func runOf(g api.Grid, sea api.Span, m surge.Model, cell int, start api.Span, l []surge.Wind) []api.Span {
	var levels []api.Span
	for _, w := range l {
		start = behind(m.Lag, start, steadyOf(g, sea, m, cell, w))
		levels = append(levels, start)
	}
	return levels
}

func randomStart(r *rand.Rand) api.Span {
	most := []int{10, 5000, surge.MaxFine}[r.IntN(3)]
	return within(r, sp(-most, most))
}

func randomWinds(r *rand.Rand, n int) []surge.Wind {
	var l []surge.Wind
	for range n {
		l = append(l, randomWind(r))
	}
	return l
}

func last(l []api.Span, start api.Span) api.Span {
	if len(l) == 0 {
		return start
	}
	return l[len(l)-1]
}

// P3.3: Run, by its definition.
func TestRun(t *testing.T) {
	r := dice(10)
	for k := range 1500 {
		g, sea, m, start := randomGrid(r, 6), randomSea(r), randomModel(r), randomStart(r)
		l, cell := randomWinds(r, r.IntN(7)), r.IntN(len(g.Ground))
		want := runOf(g, sea, m, cell, start, l)
		if levels, e := surge.Run(g, sea, m, cell, start, l); e != api.OK || !slices.Equal(levels, want) {
			t.Error(k, levels, e, want)
		}
	}
}

// P3.4: Field has at each cell what is behind the run with the winds of this cell.
func TestField(t *testing.T) {
	r := dice(11)
	for k := range 300 {
		g, sea, m, start := randomGrid(r, 5), randomSea(r), randomModel(r), randomStart(r)
		lists := make([][]surge.Wind, r.IntN(5))
		for i := range lists {
			lists[i] = randomWinds(r, len(g.Ground))
		}
		levels, e := surge.Field(g, sea, m, start, lists)
		if e != api.OK || len(levels) != len(g.Ground) {
			t.Fatal(k, len(levels), e)
		}
		for cell, level := range levels {
			var l []surge.Wind
			for _, winds := range lists {
				l = append(l, winds[cell])
			}
			run, _ := surge.Run(g, sea, m, cell, start, l)
			if want := last(runOf(g, sea, m, cell, start, l), start); level != want || last(run, start) != want {
				t.Error(k, cell, level, run, want)
			}
		}
	}
}

// P3.4: the greatest field, in reasonable time.
func TestGreatestField(t *testing.T) {
	g := square(24, api.MaxSize, sp(-2, -1))
	winds := slices.Repeat([]surge.Wind{{Speed: sp(0, 10000), Dirs: 255, Low: sp(-20000, 20000)}}, 576)
	lists := slices.Repeat([][]surge.Wind{winds}, 500)
	m := surge.Model{Drag: sp(1, 10000), Lag: sp(1, 1024)}
	levels, e := surge.Field(g, sp(0), m, sp(0), lists)
	if e != api.OK || len(levels) != 576 {
		t.Fatal(len(levels), e)
	}
	for _, cell := range []int{0, 23, 300, 575} {
		if want := steadyOf(g, sp(0), m, cell, winds[0]); levels[cell] != want {
			t.Error(cell, levels[cell], want)
		}
	}
}

// The examples of the chapter.
func TestRunExamples(t *testing.T) {
	l, e := surge.Run(exampleG(), sp(0), exampleModel(), 2, sp(0), []surge.Wind{exampleWind(), exampleWind()})
	if e != api.OK || !slices.Equal(l, []api.Span{sp(313, 314), sp(469, 471)}) {
		t.Error(l, e)
	}
	for k, x := range []struct{ fine, want api.Span }{{sp(469, 471), sp(1, 2)}, {sp(-1, 256), sp(-1, 1)}} {
		if s, e := surge.Centimetres(x.fine); e != api.OK || s != x.want {
			t.Error(k, s, e)
		}
	}
	for k, x := range []struct{ level, may, must int }{{313, 0, 1}, {471, -1, -1}} {
		if may, must, e := surge.Exceeds(l, x.level); e != api.OK || may != x.may || must != x.must {
			t.Error(k, may, must, e)
		}
	}
}

// P3.3, P3.4: the greatest and the least starts, far from the steady level on either side, and no winds at all.
func TestRunStarts(t *testing.T) {
	g := exampleG()
	for k, start := range []api.Span{sp(-surge.MaxFine), sp(surge.MaxFine), sp(-surge.MaxFine, surge.MaxFine), sp(0)} {
		for _, lag := range []api.Span{sp(1), sp(1024), sp(1, 1024), sp(511, 513)} {
			m := surge.Model{Drag: sp(1, 10000), Lag: lag}
			l := []surge.Wind{{Speed: sp(0, 10000), Dirs: 255, Low: sp(-20000, 20000)}, exampleWind()}
			if levels, e := surge.Run(g, sp(0), m, 3, start, l); e != api.OK || !slices.Equal(levels, runOf(g, sp(0), m, 3, start, l)) {
				t.Error(k, lag, levels, e)
			}
		}
		if levels, e := surge.Run(g, sp(0), exampleModel(), 2, start, nil); e != api.OK || len(levels) != 0 {
			t.Error(k, levels, e)
		}
		if levels, e := surge.Field(g, sp(0), exampleModel(), start, nil); e != api.OK || !slices.Equal(levels, []api.Span{start, start, start, start}) {
			t.Error(k, levels, e)
		}
	}
}

// P3.3: which share of a difference is made up, and how it is rounded, on both sides of the steady level (which is 0 where there is no wind).
func TestShares(t *testing.T) {
	still := []surge.Wind{{Dirs: 1}}
	for k, x := range []struct{ lag, start, want api.Span }{
		{sp(512), sp(100), sp(50)}, {sp(512), sp(-100), sp(-50)}, {sp(512), sp(101), sp(50, 51)}, {sp(512), sp(-101), sp(-51, -50)},
		{sp(256, 512), sp(100), sp(50, 75)}, {sp(256, 512), sp(-100), sp(-75, -50)}, {sp(256, 512), sp(-100, 100), sp(-75, 75)},
		{sp(1), sp(1), sp(0, 1)}, {sp(1), sp(-1), sp(-1, 0)}, {sp(1024), sp(-77, 99), sp(0)}, {sp(1, 1024), sp(0), sp(0)},
		{sp(1, 1024), sp(5, 1000), sp(0, 1000)}, {sp(1, 1024), sp(-1024), sp(-1023, 0)},
	} {
		if l, e := surge.Run(exampleG(), sp(0), surge.Model{Drag: sp(1), Lag: x.lag}, 0, x.start, still); e != api.OK || !slices.Equal(l, []api.Span{x.want}) {
			t.Error(k, l, e, x.want)
		}
	}
}

func between(n, a, b int) bool { return n >= min(a, b) && n <= max(a, b) }

// P3.9: levels lie between that before and the steady one, which a lag of 1,024 reaches; a run can be cut in two.
func TestRunProperties(t *testing.T) {
	r := dice(12)
	for k := range 1000 {
		g, sea, m, start := randomGrid(r, 6), randomSea(r), randomModel(r), randomStart(r)
		l, cell := randomWinds(r, 1+r.IntN(6)), r.IntN(len(g.Ground))
		levels, e := surge.Run(g, sea, m, cell, start, l)
		if e != api.OK || len(levels) != len(l) {
			t.Fatal(k, levels, e)
		}
		whole, _ := surge.Run(g, sea, surge.Model{Drag: m.Drag, Lag: sp(1024)}, cell, start, l)
		before := start
		for i, level := range levels {
			steady, _ := surge.Steady(g, sea, m, cell, l[i])
			if level.Lo > level.Hi || !between(level.Lo, before.Lo, steady.Lo) || !between(level.Hi, before.Hi, steady.Hi) || whole[i] != steady {
				t.Error(k, i, before, steady, level, whole[i])
			}
			before = level
		}
		cut := r.IntN(len(l) + 1)
		first, _ := surge.Run(g, sea, m, cell, start, l[:cut])
		others, _ := surge.Run(g, sea, m, cell, last(first, start), l[cut:])
		if !slices.Equal(append(first, others...), levels) {
			t.Error(k, first, others, levels)
		}
	}
}

// P3.3: any valid span has its centimetres, however great it is.
func TestCentimetres(t *testing.T) {
	for k, x := range []struct{ fine, want api.Span }{
		{sp(0), sp(0)}, {sp(255), sp(0, 1)}, {sp(256), sp(1)}, {sp(257), sp(1, 2)}, {sp(-255), sp(-1, 0)}, {sp(-256), sp(-1)}, {sp(-257), sp(-2, -1)},
		{sp(math.MinInt), sp(-1 << 55)}, {sp(math.MaxInt), sp(1<<55-1, 1<<55)}, {sp(math.MinInt, math.MaxInt), sp(-1<<55, 1<<55)}, {sp(math.MinInt + 1), sp(-1<<55, -1<<55+1)},
	} {
		if s, e := surge.Centimetres(x.fine); e != api.OK || s != x.want {
			t.Error(k, s, e)
		}
	}
	for n := -1000; n <= 1000; n++ {
		want := sp(int(math.Floor(float64(n)/256)), int(math.Ceil(float64(n+7)/256)))
		if s, e := surge.Centimetres(sp(n, n+7)); e != api.OK || s != want {
			t.Error(n, s, e)
		}
	}
	for k, s := range []api.Span{sp(1, 0), sp(math.MaxInt, math.MinInt), sp(0, -1)} {
		if s, e := surge.Centimetres(s); e != api.ErrRange || s != sp(0) {
			t.Error(k, s, e)
		}
	}
}

// P3.5: which spans are above a level first; at the level is not above it.
func TestExceeds(t *testing.T) {
	for k, x := range []struct {
		l                []api.Span
		level, may, must int
	}{
		{nil, 0, -1, -1},
		{[]api.Span{}, math.MinInt, -1, -1},
		{[]api.Span{sp(5)}, 5, -1, -1},
		{[]api.Span{sp(5)}, 4, 0, 0},
		{[]api.Span{sp(0, 5), sp(3, 6), sp(6, 7), sp(9)}, 5, 1, 2},
		{[]api.Span{sp(0, 5), sp(3, 6), sp(6, 7), sp(9)}, 8, 3, 3},
		{[]api.Span{sp(0, 5), sp(3, 6), sp(1, 7)}, 4, 0, -1},
		{[]api.Span{sp(0), sp(9), sp(0), sp(9)}, 0, 1, 1},
		{[]api.Span{sp(math.MinInt), sp(math.MaxInt)}, math.MaxInt, -1, -1},
		{[]api.Span{sp(math.MinInt), sp(math.MinInt, math.MaxInt), sp(math.MinInt + 1)}, math.MinInt, 1, 2},
	} {
		if may, must, e := surge.Exceeds(x.l, x.level); e != api.OK || may != x.may || must != x.must {
			t.Error(k, may, must, e)
		}
	}
	for k, l := range [][]api.Span{{sp(1, 0)}, {sp(9), sp(9), sp(1, 0)}, {sp(math.MaxInt, math.MinInt), sp(9)}} {
		if may, must, e := surge.Exceeds(l, 5); e != api.ErrRange || may != 0 || must != 0 {
			t.Error(k, may, must, e)
		}
	}
}
