package wave_test

import (
	"slices"
	"testing"

	"tidewall/api"
	"tidewall/wave"
)

// The examples of the chapter, and example 5 of DOC.md.
func TestOneExamples(t *testing.T) {
	want := []wave.Bound{
		{Arrive: sp(0), Rise: sp(127, 257), Top: sp(127, 257), Flow: sp(19, 41)},
		{Arrive: sp(15963, 15964), Rise: sp(127, 257), Top: sp(127, 257), Flow: sp(19, 41)},
		{Arrive: sp(116926, 116928), Rise: sp(321, 644), Top: sp(321, 644), Flow: sp(317, 638)},
		{Arrive: sp(216926, 216928), Rise: sp(11, 334), Top: sp(311, 634), Flow: sp(103, 573)},
	}
	if l, e := wave.One(exampleG(), sp(0), exampleModel(), exampleS()); e != api.OK || !slices.Equal(l, want) {
		t.Error(l, e)
	}
	m := exampleModel()
	m.Loss = sp(10, 30)
	want[3] = wave.Bound{Arrive: sp(216926, api.Never), Rise: sp(0, 334), Top: sp(300, 634), Flow: sp(0, 573)}
	if l, e := wave.One(exampleG(), sp(0), m, exampleS()); e != api.OK || !slices.Equal(l, want) {
		t.Error(l, e)
	}
}

// The examples of Wave without sources, and of Dry.
func TestDryExamples(t *testing.T) {
	g, m := exampleG(), exampleModel()
	none, e := wave.Wave(g, sp(0), m, nil)
	calm := wave.Bound{Arrive: never()}
	want := []wave.Bound{calm, calm, calm, {Arrive: never(), Top: sp(300)}}
	if e != api.OK || !slices.Equal(none, want) {
		t.Error(none, e)
	}
	if l, e := wave.Dry(g, sp(0), none); e != api.OK || !slices.Equal(l, []bool{false, false, false, true}) {
		t.Error(l, e)
	}
	one, _ := wave.One(g, sp(0), m, exampleS())
	if l, e := wave.Dry(g, sp(0), one); e != api.OK || !slices.Equal(l, make([]bool, 4)) {
		t.Error(l, e)
	}
}

// P5.2: what is sea for sure, open, and land: one cell in which a wave begins, and its shore.
func TestSeaAndLand(t *testing.T) {
	for k, x := range []struct {
		ground, sea api.Span
		want        wave.Bound
	}{
		// the root of 5^2 981 is 156.6
		{sp(-1), sp(0), wave.Bound{Arrive: sp(7), Rise: sp(5), Top: sp(5), Flow: sp(156, 157)}},
		{sp(0), sp(0), wave.Bound{Arrive: never()}},
		{sp(0), sp(1), wave.Bound{Arrive: sp(7), Rise: sp(5), Top: sp(6), Flow: sp(156, 157)}},
		{sp(-1, 0), sp(0), wave.Bound{Arrive: sp(7, api.Never), Rise: sp(0, 5), Top: sp(-1, 5), Flow: sp(0, 157)}},
		{sp(0), sp(0, 1), wave.Bound{Arrive: sp(7, api.Never), Rise: sp(0, 5), Top: sp(0, 6), Flow: sp(0, 157)}},
		{sp(-1, 20), sp(0), wave.Bound{Arrive: sp(7, api.Never), Rise: sp(0, 5), Top: sp(-1, 20), Flow: sp(0, 157)}},
		{sp(3, 20), sp(-5, 3), wave.Bound{Arrive: never(), Top: sp(3, 20)}},
		// 5 times the fourth root of 16 is 10
		{sp(-16, -1), sp(0), wave.Bound{Arrive: sp(7), Rise: sp(2, 10), Top: sp(2, 10), Flow: sp(15, 314)}},
		{sp(-1), sp(0, 15), wave.Bound{Arrive: sp(7), Rise: sp(2, 10), Top: sp(2, 25), Flow: sp(15, 314)}},
	} {
		if l := spread(t, row(1000, x.ground), x.sea, exampleModel(), start(0, sp(7), sp(5))); l[0] != x.want {
			t.Error(k, l[0], x.want)
		}
	}
}

// P5.2: of several starts the first one in time, and the highest one, count; what begins on land has no effect.
func TestSeveralStarts(t *testing.T) {
	g := row(1000, sp(-16), sp(-16), sp(5), sp(5))
	early, high, land := start(0, sp(10, 90), sp(1, 2)), start(0, sp(40, 70), sp(0, 30)), start(3, sp(0), sp(5000))
	both := spread(t, g, sp(0), exampleModel(), early, high, land)
	if both[0].Arrive != sp(10, 70) || both[0].Rise != sp(1, 30) || both[0].Top != sp(1, 30) {
		t.Error(both[0])
	}
	// the root of 10^16 / (981 16) is 798188.9
	if both[1].Arrive != sp(798198, 798259) || both[1].Rise != both[0].Rise {
		t.Error(both[1])
	}
	if both[2].Arrive != sp(898198, api.Never) || both[2].Rise != sp(0, 15) || both[2].Top != sp(5, 20) {
		t.Error(both[2])
	}
	if both[3].Arrive != sp(998198, api.Never) || both[3].Rise != sp(0, 5) || both[3].Top != sp(5, 10) {
		t.Error(both[3])
	}
	if l := spread(t, g, sp(0), exampleModel(), land, high, early, high); !slices.Equal(l, both) {
		t.Error(l)
	}
	for cell, b := range spread(t, g, sp(0), exampleModel(), land) {
		if want := (wave.Bound{Arrive: never(), Top: sp(max(0, g.Ground[cell].Lo))}); b != want {
			t.Error(cell, b)
		}
	}
}

// P5.2: the first way and the strongest one are not the same: there is deep water around a shoal.
func TestFirstAndStrongestWays(t *testing.T) {
	g := flat(3, 2, 1000, sp(-10000))
	g.Ground[1] = sp(-1)
	m := exampleModel()
	m.Keep = sp(512)
	l := spread(t, g, sp(0), m, start(0, sp(0), sp(1600)))
	// the root of 10^16 / (981 10000) is 31927.5, and that of 10^16 / 981 is 3192754.7
	for k, x := range []struct {
		cell         int
		arrive, rise api.Span
	}{
		{0, sp(0), sp(1600)},
		{1, sp(3192754, 3192755), sp(8000)},
		{2, sp(4*31927, 4*31928), sp(400)},
		{3, sp(31927, 31928), sp(800)},
		{4, sp(2*31927, 2*31928), sp(400)},
		{5, sp(3*31927, 3*31928), sp(200)},
	} {
		if l[x.cell].Arrive != x.arrive || l[x.cell].Rise != x.rise {
			t.Error(k, l[x.cell])
		}
	}
}

// P5.2: where nearly nothing is kept of a wave it comes all the same, and its upper strength does not come to nothing.
func TestWeakWaves(t *testing.T) {
	m := exampleModel()
	m.Keep = sp(1)
	l := spread(t, flat(3, 1, 1, sp(-1)), sp(0), m, start(0, sp(0), sp(1)))
	for cell, rise := range []api.Span{sp(1), sp(0, 1), sp(0, 1)} {
		// the root of 10^10 / 981 is 3192.8
		if l[cell].Arrive != sp(3192*cell, 3193*cell) || l[cell].Rise != rise {
			t.Error(cell, l[cell])
		}
	}
	for cell, b := range spread(t, flat(3, 1, 1, sp(-1)), sp(0), m, start(0, sp(0), sp(0))) {
		if b != (wave.Bound{Arrive: sp(3192*cell, 3193*cell)}) {
			t.Error(cell, b)
		}
	}
}

// P5.2: water overflows only what is below its surface less the loss, and is higher where there is less ground.
func TestOverflow(t *testing.T) {
	for k, x := range []struct {
		ground api.Span
		loss   api.Span
		want   wave.Bound
	}{
		{sp(4), sp(10), wave.Bound{Arrive: sp(1000), Rise: sp(1), Top: sp(5), Flow: sp(31, 32)}},
		{sp(5), sp(10), wave.Bound{Arrive: never(), Top: sp(5)}},
		{sp(5), sp(9), wave.Bound{Arrive: sp(1000), Rise: sp(1), Top: sp(6), Flow: sp(31, 32)}},
		{sp(5), sp(9, 10), wave.Bound{Arrive: sp(1000, api.Never), Rise: sp(0, 1), Top: sp(5, 6), Flow: sp(0, 32)}},
		{sp(4, 5), sp(10), wave.Bound{Arrive: sp(1000, api.Never), Rise: sp(0, 1), Top: sp(4, 5), Flow: sp(0, 32)}},
		{sp(4, 50), sp(10), wave.Bound{Arrive: sp(1000, api.Never), Rise: sp(0, 1), Top: sp(4, 50), Flow: sp(0, 32)}},
		{sp(1, 4), sp(8, 10), wave.Bound{Arrive: sp(1000), Rise: sp(1, 6), Top: sp(5, 7), Flow: sp(31, 77)}},
		{sp(0), sp(0), wave.Bound{Arrive: sp(1000), Rise: sp(15), Top: sp(15), Flow: sp(121, 122)}},
		{sp(14), sp(1000), wave.Bound{Arrive: never(), Top: sp(14)}},
	} {
		m := wave.Model{Keep: sp(1024), Land: sp(100), Loss: x.loss}
		if l := spread(t, row(10, sp(-1), x.ground), sp(0), m, start(0, sp(0), sp(15))); l[1] != x.want {
			t.Error(k, l[1], x.want)
		}
	}
}

// P5.2: on land the first water, and the highest one, come from different sides; but what does not overflow does not come.
func TestWaterFromBothSides(t *testing.T) {
	g := row(10, sp(-1), sp(5), sp(-1))
	l := spread(t, g, sp(0), exampleModel(), start(0, sp(1000), sp(100)), start(2, sp(0), sp(20)))
	if want := (wave.Bound{Arrive: sp(1000), Rise: sp(85), Top: sp(90), Flow: sp(288, 289)}); l[1] != want {
		t.Error(l[1], want)
	}
	l = spread(t, g, sp(0), exampleModel(), start(0, sp(1000), sp(100)), start(2, sp(0), sp(15)))
	if want := (wave.Bound{Arrive: sp(2000), Rise: sp(85), Top: sp(90), Flow: sp(288, 289)}); l[1] != want {
		t.Error(l[1], want)
	}
}

// P5.2: no water comes to the sea behind land; but it can come to what can be land.
func TestBehindLand(t *testing.T) {
	wet := wave.Bound{Arrive: sp(1000), Rise: sp(85), Top: sp(90), Flow: sp(288, 289)}
	for k, x := range []struct {
		ground api.Span
		want   wave.Bound
	}{
		{sp(-1), wave.Bound{Arrive: never()}},
		{sp(0), wave.Bound{Arrive: sp(2000), Rise: sp(80), Top: sp(80), Flow: sp(280, 281)}},
		{sp(-1, 0), wave.Bound{Arrive: sp(2000, api.Never), Rise: sp(0, 81), Top: sp(-1, 80), Flow: sp(0, 282)}},
	} {
		l := spread(t, row(10, sp(-1), sp(5), x.ground), sp(0), exampleModel(), start(0, sp(0), sp(100)))
		if l[1] != wet || l[2] != x.want {
			t.Error(k, l, x.want)
		}
	}
}

// P5.2: to what can be sea and can be land, water can come both ways: first the one way, and highest the other one.
func TestBothWaysToOpenCells(t *testing.T) {
	g := flat(2, 2, 10, sp(-1))
	g.Ground[1], g.Ground[3] = sp(5), sp(-1, 0)
	l := spread(t, g, sp(0), exampleModel(), start(0, sp(0), sp(100)))
	// through the sea it takes at least 2 31927 ms, over land 2000
	if want := (wave.Bound{Arrive: sp(2000, api.Never), Rise: sp(0, 100), Top: sp(-1, 100), Flow: sp(0, 3133)}); l[3] != want {
		t.Error(l[3], want)
	}
	// from there it does not go on through the sea
	if l[2].Arrive != sp(31927, 31928) {
		t.Error(l[2])
	}
	// The surface on land of an open cell can be that of water which has come over its neighbor from the cell itself.
	// R(50) is 2723, so that the upper rise in the sea is 20 2723 / 1024, rounded up, which is 54; the neighbor has 44, and the cell on land 34.
	l = spread(t, row(10, sp(-50, 10), sp(0)), sp(0), exampleModel(), start(0, sp(0), sp(20)))
	if want := (wave.Bound{Arrive: sp(0, api.Never), Rise: sp(0, 84), Top: sp(-50, 54), Flow: sp(0, 1692)}); l[0] != want || l[1].Rise != sp(0, 44) {
		t.Error(l, want)
	}
	if l = spread(t, row(10, sp(-50, 10)), sp(0), exampleModel(), start(0, sp(0), sp(20))); l[0].Rise != sp(0, 54) {
		t.Error(l)
	}
}

// P5.2, P0: without a loss, water goes over all land that is below it, and does not go round and round.
func TestWithoutLoss(t *testing.T) {
	m := exampleModel()
	m.Loss = sp(0)
	g := flat(api.MaxSide, api.MaxSide, 10, sp(0))
	g.Ground[0] = sp(-1)
	for cell, b := range spread(t, g, sp(0), m, start(0, sp(0), sp(3))) {
		far := cell%api.MaxSide + cell/api.MaxSide
		if b.Arrive != sp(1000*far) || b.Rise != sp(3) || b.Top != sp(3) {
			t.Error(cell, b)
		}
	}
}

// P0: the slowest way over land, through walls, ends before Never.
func TestSlowestWay(t *testing.T) {
	g := flat(api.MaxSide, api.MaxSide, api.MaxSize, sp(0))
	for cell := range g.Ground {
		x, y := cell%api.MaxSide, cell/api.MaxSide
		gap := api.MaxSide - 1
		if y%4 == 3 {
			gap = 0
		}
		if y%2 == 1 && x != gap {
			g.Ground[cell] = sp(10000)
		}
	}
	g.Ground[0] = sp(-1)
	m := wave.Model{Keep: sp(1), Land: sp(wave.MaxLand), Loss: sp(0)}
	l := spread(t, g, sp(0), m, start(0, sp(api.MaxTime), sp(wave.MaxRise)))
	last := len(g.Ground) - api.MaxSide
	// 12 rows with 23 steps each, and 11 gaps with 2, and the last one
	if want := sp(api.MaxTime + (12*23+11*2+1)*1000000000); l[last].Arrive != want || l[last].Rise != sp(5000) {
		t.Error(l[last], want)
	}
	if l[last+1].Arrive != never() || l[last+1].Top != sp(10000) {
		t.Error(l[last+1])
	}
}

// P5.2: what is known least, and what is farthest, by the definition.
func TestEndsOfAllRanges(t *testing.T) {
	most := wave.Model{Keep: sp(1, 1024), Land: sp(10, 100000), Loss: sp(0, 1000)}
	wide := start(0, sp(0, api.MaxTime), sp(0, 5000))
	for k, x := range []event{
		{flat(4, 4, api.MaxSize, sp(-api.MaxGround, api.MaxGround)), sp(-20000, 20000), most, []wave.Start{wide}},
		{flat(4, 4, 1, sp(-api.MaxGround, api.MaxGround)), sp(-20000, 20000), most, []wave.Start{wide, start(15, sp(api.MaxTime), sp(5000))}},
		{flat(4, 4, api.MaxSize, sp(-api.MaxGround)), sp(20000), exampleModel(), []wave.Start{start(5, sp(api.MaxTime), sp(5000))}},
		{flat(4, 4, 1, sp(-api.MaxGround)), sp(20000), exampleModel(), []wave.Start{start(5, sp(0), sp(5000))}},
		{flat(4, 4, api.MaxSize, sp(-1)), sp(0), most, []wave.Start{wide}},
		{flat(4, 4, api.MaxSize, sp(api.MaxGround)), sp(20000), most, []wave.Start{wide}},
		{row(1, sp(-api.MaxGround), sp(-1), sp(0), sp(0), sp(19999)), sp(0), exampleModel(), []wave.Start{start(0, sp(0), sp(5000))}},
	} {
		got, want := spread(t, x.g, x.sea, x.m, x.l...), x.bounds()
		if !slices.Equal(got, want) {
			t.Error(k, got, want)
		}
	}
}

// P5.3: what several sources do, and that equal ones do the same as one.
func TestWaveOfSeveralSources(t *testing.T) {
	g, m := exampleG(), exampleModel()
	late, small := exampleS(), exampleS()
	late.Time = sp(5000, 6000)
	small.Class = 1
	l, e := wave.Wave(g, sp(0), m, []api.Source{late, small})
	// of the class 1 the rise is from 2 to 4 in the cell 0, and does not overflow the cell 3
	want := []wave.Bound{
		{Arrive: sp(0, 6000), Rise: sp(1, 257), Top: sp(1, 257), Flow: sp(0, 41)},
		{Arrive: sp(15963, 21964), Rise: sp(1, 257), Top: sp(1, 257), Flow: sp(0, 41)},
		{Arrive: sp(116926, 122928), Rise: sp(5, 644), Top: sp(5, 644), Flow: sp(4, 638)},
		{Arrive: sp(221926, api.Never), Rise: sp(0, 334), Top: sp(300, 634), Flow: sp(0, 573)},
	}
	if e != api.OK || !slices.Equal(l, want) {
		t.Error(l, e)
	}
	one, _ := wave.One(g, sp(0), m, exampleS())
	for _, n := range []int{1, 2, 256} {
		if l, e := wave.Wave(g, sp(0), m, slices.Repeat([]api.Source{exampleS()}, n)); e != api.OK || !slices.Equal(l, one) {
			t.Error(n, l, e)
		}
	}
}

// P5.4: only what is land for sure, and has no rise, is dry; nothing else of a bound matters.
func TestDry(t *testing.T) {
	other := sp(5, -5)
	for k, x := range []struct {
		ground, sea, rise api.Span
		want              bool
	}{
		{sp(0), sp(0), sp(0), true},
		{sp(0), sp(0), sp(0, 1), false},
		{sp(0), sp(0), sp(1), false},
		{sp(0), sp(0), sp(9, 0), true},
		{sp(0), sp(0), sp(9, -3), true},
		{sp(-1), sp(0), sp(0), false},
		{sp(-1, 0), sp(0), sp(0), false},
		{sp(0), sp(-3, 0), sp(0), true},
		{sp(0), sp(0, 1), sp(0), false},
		{sp(-20000), sp(-20000), sp(0), true},
		{sp(20000), sp(20000), sp(0), true},
	} {
		l, e := wave.Dry(row(1, x.ground), x.sea, []wave.Bound{{Arrive: other, Rise: x.rise, Top: other, Flow: other}})
		if e != api.OK || !slices.Equal(l, []bool{x.want}) {
			t.Error(k, l, e)
		}
	}
}
