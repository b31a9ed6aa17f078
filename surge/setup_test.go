package surge_test

import (
	"math/big"
	"slices"
	"testing"

	"tidewall/api"
	"tidewall/surge"
)

// steps are how the column and the row differ, for each direction.
func steps() [8][2]int {
	return [8][2]int{{1, 0}, {1, 1}, {0, 1}, {-1, 1}, {-1, 0}, {-1, -1}, {0, -1}, {1, -1}}
}

// rounded divides a product, rounding down or up.
func rounded(divisor int, up bool, factors ...int) int {
	n := big.NewInt(1)
	for _, factor := range factors {
		n.Mul(n, big.NewInt(int64(factor)))
	}
	q, rest := new(big.Int).DivMod(n, big.NewInt(int64(divisor)), new(big.Int))
	if up && rest.Sign() > 0 {
		q.Add(q, big.NewInt(1))
	}
	return int(q.Int64())
}

// fetchOf is a fetch by its definition: that for sure, or that which may be.
func fetchOf(g api.Grid, sea api.Span, cell, dir int, isSure bool) []int {
	var l []int
	for n := 1; ; n++ {
		x, y := cell%g.Wide+n*steps()[dir][0], cell/g.Wide+n*steps()[dir][1]
		if x < 0 || y < 0 || x == g.Wide || y == g.High {
			return l
		}
		next := x + y*g.Wide
		depth := sea.Hi - g.Ground[next].Lo
		if isSure {
			depth = sea.Lo - g.Ground[next].Hi
		}
		if depth < 1 {
			return l
		}
		l = append(l, next)
	}
}

// riseOf is the rise over a fetch, by its definition.
func riseOf(g api.Grid, sea api.Span, m surge.Model, cell, dir int, speed api.Span) api.Span {
	least, most := 100*g.Size, 100*g.Size
	if dir == 1 || dir == 3 || dir == 5 || dir == 7 {
		least, most = 141*g.Size, 142*g.Size
	}
	var rise api.Span
	for _, c := range fetchOf(g, sea, cell, dir, true) {
		rise.Lo += rounded(3832031250*(sea.Hi-g.Ground[c].Lo), false, m.Drag.Lo, speed.Lo, speed.Lo, least)
	}
	for _, c := range fetchOf(g, sea, cell, dir, false) {
		rise.Hi += rounded(3832031250*max(1, sea.Lo-g.Ground[c].Hi), true, m.Drag.Hi, speed.Hi, speed.Hi, most)
	}
	return rise
}

func setupOf(g api.Grid, sea api.Span, m surge.Model, cell, dir int, speed api.Span) api.Span {
	from, to := riseOf(g, sea, m, cell, (dir+4)%8, speed), riseOf(g, sea, m, cell, dir, speed)
	return sp(from.Lo-to.Hi, from.Hi-to.Lo)
}

// steadyOf is the steady level of a wind, by its definition.
func steadyOf(g api.Grid, sea api.Span, m surge.Model, cell int, w surge.Wind) api.Span {
	var all []api.Span
	for dir := range 8 {
		if w.Dirs&(1<<dir) != 0 {
			all = append(all, setupOf(g, sea, m, cell, dir, w.Speed))
		}
	}
	level := all[0]
	for _, s := range all {
		level = sp(min(level.Lo, s.Lo), max(level.Hi, s.Hi))
	}
	return sp(level.Lo+rounded(981, false, 2560, w.Low.Lo), level.Hi+rounded(981, true, 2560, w.Low.Hi))
}

// P3.1, P3.2: Fetch, Setup and Steady, by their definitions.
func TestByDefinition(t *testing.T) {
	r := dice(1)
	longest, partly := 0, 0
	for k := range 3000 {
		g, sea, m, w := randomGrid(r, 8), randomSea(r), randomModel(r), randomWind(r)
		cell, dir := r.IntN(len(g.Ground)), r.IntN(8)
		sure, may, e := surge.Fetch(g, sea, cell, dir)
		if e != api.OK || !slices.Equal(sure, fetchOf(g, sea, cell, dir, true)) || !slices.Equal(may, fetchOf(g, sea, cell, dir, false)) {
			t.Error("Fetch", k, g, sea, cell, dir, sure, may, e)
		}
		longest = max(longest, len(sure))
		if len(sure) > 0 && len(sure) < len(may) {
			partly++
		}
		if s, e := surge.Setup(g, sea, m, cell, dir, w.Speed); e != api.OK || s != setupOf(g, sea, m, cell, dir, w.Speed) {
			t.Error("Setup", k, g, sea, m, cell, dir, w.Speed, s, e, setupOf(g, sea, m, cell, dir, w.Speed))
		}
		if s, e := surge.Steady(g, sea, m, cell, w); e != api.OK || s != steadyOf(g, sea, m, cell, w) {
			t.Error("Steady", k, g, sea, m, cell, w, s, e, steadyOf(g, sea, m, cell, w))
		}
	}
	if longest < 4 || partly < 100 {
		t.Error("the fetches were too much alike", longest, partly)
	}
}

// The examples of the chapter, and example 3 of DOC.md.
func TestSetupExamples(t *testing.T) {
	g, m := exampleG(), exampleModel()
	for k, x := range []struct {
		dir  int
		want []int
	}{{4, []int{1, 0}}, {0, nil}} {
		if sure, may, e := surge.Fetch(g, sp(0), 2, x.dir); e != api.OK || !slices.Equal(sure, x.want) || !slices.Equal(may, x.want) {
			t.Error(k, sure, may, e)
		}
	}
	for cell, want := range map[int]api.Span{2: sp(626, 628), 1: sp(-314, -312), 3: sp(1252, 1255)} {
		if s, e := surge.Setup(g, sp(0), m, cell, 0, sp(2000)); e != api.OK || s != want {
			t.Error(cell, s, e)
		}
	}
	for k, x := range []struct {
		w    surge.Wind
		want api.Span
	}{
		{surge.Wind{Speed: sp(2000), Dirs: 1, Low: sp(1000)}, sp(3235, 3238)},
		{surge.Wind{Speed: sp(2000), Dirs: 17, Low: sp(0)}, sp(-628, 628)},
	} {
		if s, e := surge.Steady(g, sp(0), m, 2, x.w); e != api.OK || s != x.want {
			t.Error(k, s, e)
		}
	}
}

// P3.1: the way of each direction, up to the edge, and where a depth is 1 or 0.
func TestFetchDirections(t *testing.T) {
	g := square(5, 1, sp(-1))
	for dir, want := range [][]int{{13, 14}, {18, 24}, {17, 22}, {16, 20}, {11, 10}, {6, 0}, {7, 2}, {8, 4}} {
		if sure, may, e := surge.Fetch(g, sp(0), 12, dir); e != api.OK || !slices.Equal(sure, want) || !slices.Equal(may, want) {
			t.Error(dir, sure, may, e)
		}
	}
	narrow := api.Grid{Wide: 2, High: 3, Size: 1, Ground: slices.Repeat([]api.Span{sp(-1)}, 6)}
	for dir, want := range [][]int{{3}, {5}, {4}, nil, nil, nil, {0}, {1}} {
		if sure, may, e := surge.Fetch(narrow, sp(0), 2, dir); e != api.OK || !slices.Equal(sure, want) || !slices.Equal(may, want) {
			t.Error(dir, sure, may, e)
		}
	}
	row := api.Grid{Wide: 6, High: 1, Size: 1, Ground: []api.Span{sp(50), sp(-1), sp(-2, -1), sp(-1, 0), sp(0), sp(-1)}}
	for k, x := range []struct {
		sea       api.Span
		sure, may []int
	}{
		{sp(0), []int{1, 2}, []int{1, 2, 3}},
		{sp(1), []int{1, 2, 3, 4, 5}, []int{1, 2, 3, 4, 5}},
		{sp(-1), nil, nil},
		{sp(-1, 0), nil, []int{1, 2, 3}},
		{sp(0, 1), []int{1, 2}, []int{1, 2, 3, 4, 5}},
		{sp(-20000), nil, nil},
	} {
		if sure, may, e := surge.Fetch(row, x.sea, 0, 0); e != api.OK || !slices.Equal(sure, x.sure) || !slices.Equal(may, x.may) {
			t.Error(k, sure, may, e)
		}
	}
}

// P3.2: the greatest and the least rises do not wrap around.
func TestGreatestSetup(t *testing.T) {
	strong := surge.Model{Drag: sp(10000), Lag: sp(1024)}
	for k, x := range []struct {
		ground, sea api.Span
	}{{sp(-1), sp(0)}, {sp(-api.MaxGround), sp(api.MaxLevel)}, {sp(-api.MaxGround, api.MaxGround), sp(-api.MaxLevel, api.MaxLevel)}} {
		g := square(24, api.MaxSize, x.ground)
		for cell := range g.Ground {
			for dir := range 8 {
				want := setupOf(g, x.sea, strong, cell, dir, sp(10000))
				if s, e := surge.Setup(g, x.sea, strong, cell, dir, sp(10000)); e != api.OK || s != want {
					t.Error(k, cell, dir, s, e, want)
				}
			}
		}
	}
	// 23 cells of 10 km aslant, a centimetre deep, at 100 m/s
	if s, e := surge.Setup(square(24, api.MaxSize, sp(-1)), sp(0), strong, 575, 1, sp(10000)); e != api.OK || s != sp(23*367951070, 23*370560653) {
		t.Error(s, e)
	}
}

// P3.2: the rise by pressure is rounded outward, on both sides of zero.
func TestRiseByPressure(t *testing.T) {
	for k, x := range []struct{ low, want api.Span }{
		{sp(0), sp(0)}, {sp(981), sp(2560)}, {sp(-981), sp(-2560)}, {sp(1), sp(2, 3)}, {sp(-1), sp(-3, -2)}, {sp(-1, 1), sp(-3, 3)},
		{sp(-20000, 20000), sp(-52192, 52192)}, {sp(20000), sp(52191, 52192)}, {sp(-20000), sp(-52192, -52191)}, {sp(0, 1000), sp(0, 2610)},
	} {
		if s, e := surge.Steady(exampleG(), sp(0), exampleModel(), 2, surge.Wind{Dirs: 255, Low: x.low}); e != api.OK || s != x.want {
			t.Error(k, s, e)
		}
	}
}

// P3.2: the steady level has the setups of all directions of the wind, and of no other one.
func TestSteadyOfDirections(t *testing.T) {
	g, m := square(5, 700, sp(-300)), exampleModel()
	for cell, depth := range []int{0, -1, -2, 9, -5, -700, -20, -60} {
		g.Ground[cell*3] = sp(depth)
	}
	for dirs := 1; dirs <= 255; dirs++ {
		w := surge.Wind{Speed: sp(1500, 1600), Dirs: dirs, Low: sp(100)}
		if s, e := surge.Steady(g, sp(0), m, 12, w); e != api.OK || s != steadyOf(g, sp(0), m, 12, w) {
			t.Error(dirs, s, e)
		}
	}
}

// P3.8: with points, and one of the directions 0, 2, 4 and 6, the steady level is nearly a point.
func TestPointsStayNarrow(t *testing.T) {
	r := dice(2)
	for k := range 3000 {
		g, m, w := randomGrid(r, 10), randomModel(r), randomWind(r)
		for cell, s := range g.Ground {
			g.Ground[cell] = sp(s.Lo)
		}
		m.Drag = sp(m.Drag.Lo)
		w.Speed, w.Low = sp(w.Speed.Lo), sp(w.Low.Lo)
		cell, dir, sea := r.IntN(len(g.Ground)), 2*r.IntN(4), sp(r.IntN(100))
		w.Dirs = 1 << dir
		from, _, _ := surge.Fetch(g, sea, cell, (dir+4)%8)
		to, _, _ := surge.Fetch(g, sea, cell, dir)
		if s, e := surge.Steady(g, sea, m, cell, w); e != api.OK || s.Lo > s.Hi || s.Hi-s.Lo > len(from)+len(to)+1 {
			t.Error(k, s, e, from, to)
		}
	}
}

// P3.10: opposite directions, the speed 0, and greater speeds where there is no fetch in the direction.
func TestOppositeSetups(t *testing.T) {
	r := dice(3)
	without := 0
	for k := range 3000 {
		g, sea, m, speed := randomGrid(r, 8), randomSea(r), randomModel(r), within(r, sp(0, surge.MaxSpeed))
		cell, dir := r.IntN(len(g.Ground)), r.IntN(8)
		s, e := surge.Setup(g, sea, m, cell, dir, speed)
		back, f := surge.Setup(g, sea, m, cell, (dir+4)%8, speed)
		if e != api.OK || f != api.OK || back != sp(-s.Hi, -s.Lo) {
			t.Error(k, s, back, e, f)
		}
		if still, e := surge.Setup(g, sea, m, cell, dir, sp(0)); e != api.OK || still != sp(0) {
			t.Error(k, still, e)
		}
		if _, may, _ := surge.Fetch(g, sea, cell, dir); len(may) > 0 {
			continue
		}
		without++
		faster := sp(speed.Lo+r.IntN(surge.MaxSpeed-speed.Hi+1), speed.Hi+r.IntN(surge.MaxSpeed-speed.Hi+1))
		faster.Lo = min(faster.Lo, faster.Hi)
		if more, e := surge.Setup(g, sea, m, cell, dir, faster); e != api.OK || more.Lo < s.Lo || more.Hi < s.Hi {
			t.Error(k, speed, s, faster, more, e)
		}
	}
	if without < 300 {
		t.Error("few cells were without a fetch:", without)
	}
}
