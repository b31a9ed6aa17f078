package grid_test

import (
	"math"
	"slices"
	"testing"

	"tidewall/api"
	"tidewall/grid"
)

func sounding(cell, height, most int) grid.Sounding {
	return grid.Sounding{Cell: cell, Height: height, Error: most}
}

// P1.3: Narrow, with the examples of the chapter.
func TestNarrow(t *testing.T) {
	moved := func(wide, high, size int) api.Grid {
		return api.Grid{Wide: wide, High: high, Size: size, Ground: exampleA().Ground}
	}
	for k, x := range []struct {
		b    api.Grid
		want []api.Span
		at   int
		e    api.Errno
	}{
		{row(sp(-500), sp(0, 12), sp(-30, 0), sp(5)), []api.Span{sp(-500), sp(10, 12), sp(-30, -10), sp(5)}, 0, api.OK},
		{row(sp(-500), sp(0, 9), sp(-30, 0), sp(5)), nil, 1, api.ErrConflict},
		{exampleA(), exampleA().Ground, 0, api.OK},
		{row(sp(-500), sp(20, 30), sp(-40, -30), sp(0, 100)), []api.Span{sp(-500), sp(20), sp(-30), sp(5, 40)}, 0, api.OK},
		{row(sp(-499), sp(0, 9), sp(-30, 0), sp(5)), nil, 0, api.ErrConflict},
		{row(sp(-500), sp(21, 30), sp(0), sp(41)), nil, 1, api.ErrConflict},
		{row(sp(-500), sp(15), sp(-20), sp(41)), nil, 3, api.ErrConflict},
		{moved(2, 2, 100), nil, 0, api.ErrShape},
		{moved(1, 4, 100), nil, 0, api.ErrShape},
		{moved(4, 1, 99), nil, 0, api.ErrShape},
		{row(sp(1)), nil, 0, api.ErrShape},
	} {
		g, at, e := grid.Narrow(exampleA(), x.b)
		want := api.Grid{}
		if x.e == api.OK {
			want = row(x.want...)
		}
		if e != x.e || at != x.at || !same(g, want) {
			t.Error(k, g, at, e)
		}
	}
}

// P1.3: Measure, with the examples of the chapter.
func TestMeasure(t *testing.T) {
	for k, x := range []struct {
		l    []grid.Sounding
		want []api.Span
		at   int
		e    api.Errno
	}{
		{[]grid.Sounding{sounding(1, 5, 10), sounding(1, 30, 20)}, []api.Span{sp(-500), sp(10, 15), sp(-30, -10), sp(5, 40)}, 0, api.OK},
		{[]grid.Sounding{sounding(2, -40, 5)}, nil, 0, api.ErrConflict},
		{nil, exampleA().Ground, 0, api.OK},
		{[]grid.Sounding{}, exampleA().Ground, 0, api.OK},
		{[]grid.Sounding{sounding(2, -40, 10)}, []api.Span{sp(-500), sp(10, 20), sp(-30), sp(5, 40)}, 0, api.OK},
		{[]grid.Sounding{sounding(3, 17, 0), sounding(0, -600, 100)}, []api.Span{sp(-500), sp(10, 20), sp(-30, -10), sp(17)}, 0, api.OK},
		{[]grid.Sounding{sounding(1, 5, 10), sounding(3, 0, 5), sounding(1, 20, 4)}, nil, 2, api.ErrConflict},
		{[]grid.Sounding{sounding(1, 5, 10), sounding(3, 99, 0), sounding(1, 20, 4)}, nil, 1, api.ErrConflict},
		// each of these goes with the grid, but not with the other one
		{[]grid.Sounding{sounding(1, 10, 2), sounding(1, 20, 2)}, nil, 1, api.ErrConflict},
		// a sounding with an error comes before one that contradicts, wherever it stands
		{[]grid.Sounding{sounding(2, -40, 5), sounding(4, 0, 0)}, nil, 0, api.ErrNone},
		{[]grid.Sounding{sounding(2, -40, 5), sounding(0, 0, -1)}, nil, 0, api.ErrRange},
		{[]grid.Sounding{sounding(1, 15, 5), sounding(-1, 0, -1), sounding(0, 0, -1)}, nil, 0, api.ErrNone},
		{[]grid.Sounding{sounding(1, 15, 5), sounding(0, 0, -1), sounding(-1, 0, 0)}, nil, 0, api.ErrRange},
		{[]grid.Sounding{sounding(math.MaxInt, 0, 0)}, nil, 0, api.ErrNone},
		{[]grid.Sounding{sounding(math.MinInt, math.MinInt, 0)}, nil, 0, api.ErrNone},
		{[]grid.Sounding{sounding(1, api.MaxGround+1, 0)}, nil, 0, api.ErrRange},
		{[]grid.Sounding{sounding(1, -api.MaxGround-1, 0)}, nil, 0, api.ErrRange},
		{[]grid.Sounding{sounding(1, 0, grid.MaxError+1)}, nil, 0, api.ErrRange},
		{[]grid.Sounding{sounding(1, math.MinInt, math.MinInt)}, nil, 0, api.ErrRange},
		{[]grid.Sounding{sounding(1, math.MaxInt, math.MaxInt)}, nil, 0, api.ErrRange},
		{[]grid.Sounding{sounding(1, 0, math.MaxInt)}, nil, 0, api.ErrRange},
		{[]grid.Sounding{sounding(1, 0, grid.MaxError), sounding(0, -100500, grid.MaxError)}, exampleA().Ground, 0, api.OK},
		{[]grid.Sounding{sounding(1, api.MaxGround, grid.MaxError)}, nil, 0, api.ErrConflict},
		{[]grid.Sounding{sounding(1, -api.MaxGround, grid.MaxError)}, nil, 0, api.ErrConflict},
	} {
		g, at, e := grid.Measure(exampleA(), x.l)
		want := api.Grid{}
		if x.e == api.OK {
			want = row(x.want...)
		}
		if e != x.e || at != x.at || !same(g, want) {
			t.Error(k, g, at, e)
		}
	}
}

// P1.3, R7: as many soundings as may be, and one more; that is found before what is wrong with them.
func TestMeasureMany(t *testing.T) {
	l := slices.Repeat([]grid.Sounding{sounding(1, 15, 3)}, 4096)
	if g, at, e := grid.Measure(exampleA(), l); e != api.OK || at != 0 || g.Ground[1] != sp(12, 18) {
		t.Error(g, at, e)
	}
	l[4095] = sounding(1, 30, 0)
	if g, at, e := grid.Measure(exampleA(), l); e != api.ErrConflict || at != 4095 || !isZero(g) {
		t.Error(g, at, e)
	}
	l[0] = sounding(9, 0, 0)
	if g, at, e := grid.Measure(exampleA(), append(l, sounding(9, 0, 0))); e != api.ErrMany || at != 0 || !isZero(g) {
		t.Error(g, at, e)
	}
}

// P1.8: Narrow has just the terrains that both grids have, and the order of surveys does not matter.
func TestNarrowTerrains(t *testing.T) {
	r := dice(6)
	conflicts := 0
	for k := range 300 {
		a := randomGrid(r, 2, 2, 2, 4)
		b, c := copyOf(a), copyOf(a)
		for i := range b.Ground {
			b.Ground[i] = randomGrid(r, 1, 1, 2, 4).Ground[0]
			c.Ground[i] = randomGrid(r, 1, 1, 3, 6).Ground[0]
		}
		inA, both := map[[4]int]bool{}, map[[4]int]bool{}
		terrains(a, func(h []int) { inA[[4]int(h)] = true })
		terrains(b, func(h []int) {
			if inA[[4]int(h)] {
				both[[4]int(h)] = true
			}
		})
		ab, at, e := grid.Narrow(a, b)
		ba, otherAt, f := grid.Narrow(b, a)
		if e != f || at != otherAt || !same(ab, ba) || (e == api.OK) != (len(both) > 0) {
			t.Error(k, a, b, ab, ba, e, f)
		}
		if e != api.OK {
			conflicts++
			continue
		}
		terrains(ab, func(h []int) {
			if !both[[4]int(h)] {
				t.Error(k, a, b, h)
			}
			delete(both, [4]int(h))
		})
		if len(both) != 0 {
			t.Error(k, a, b, both)
		}
		left, _, e := grid.Narrow(ab, c)
		right := api.Grid{}
		bc, _, f := grid.Narrow(b, c)
		if f == api.OK {
			right, _, f = grid.Narrow(a, bc)
		}
		if e != f || !same(left, right) {
			t.Error(k, a, b, c, left, right, e, f)
		}
	}
	if conflicts == 0 || conflicts == 300 {
		t.Error("conflicts", conflicts)
	}
}

// P1.8: the order of soundings matters only for the number of the one that contradicts.
func TestMeasureInAnyOrder(t *testing.T) {
	r := dice(7)
	conflicts := 0
	for k := range 200 {
		g := randomGrid(r, 3, 2, 40, 30)
		l := make([]grid.Sounding, 6)
		for i := range l {
			cell := r.IntN(6)
			l[i] = sounding(cell, g.Ground[cell].Lo+r.IntN(20), r.IntN(15))
		}
		want, at, e := grid.Measure(g, l)
		if e != api.OK {
			conflicts++
			if _, _, f := grid.Measure(g, l[:at]); f != api.OK {
				t.Error(k, "an earlier one contradicts already", at)
			}
			if _, last, f := grid.Measure(g, l[:at+1]); f != api.ErrConflict || last != at {
				t.Error(k, "this one does not contradict", at, last, f)
			}
		}
		for range 5 {
			r.Shuffle(len(l), func(i, j int) { l[i], l[j] = l[j], l[i] })
			if got, _, f := grid.Measure(g, l); f != e || !same(got, want) {
				t.Error(k, got, want, e, f)
			}
		}
	}
	if conflicts == 0 || conflicts == 200 {
		t.Error("conflicts", conflicts)
	}
}

// P1.4: Tighten, with the examples of the chapter.
func TestTighten(t *testing.T) {
	b := row(sp(10, 20), sp(-30, -10), sp(5, 40))
	cross := api.Grid{Wide: 3, High: 3, Size: 5, Ground: slices.Repeat([]api.Span{sp(-100, 100)}, 9)}
	cross.Ground[4] = sp(0)
	far := row(sp(-api.MaxGround), sp(api.MaxGround))
	for k, x := range []struct {
		g    api.Grid
		step int
		want []api.Span
		e    api.Errno
	}{
		{exampleA(), 515, []api.Span{sp(-500), sp(10, 15), sp(-30, -10), sp(5, 40)}, api.OK},
		{exampleA(), 500, nil, api.ErrConflict},
		{exampleA(), 510, []api.Span{sp(-500), sp(10), sp(-30, -10), sp(5, 40)}, api.OK},
		{exampleA(), 509, nil, api.ErrConflict},
		{b, 20, []api.Span{sp(10), sp(-10), sp(5, 10)}, api.OK},
		{b, 19, nil, api.ErrConflict},
		{row(sp(3, 9), sp(0, 5)), 0, []api.Span{sp(3, 5), sp(3, 5)}, api.OK},
		{row(sp(3, 9), sp(0, 2)), 0, nil, api.ErrConflict},
		{row(sp(3, 9)), 0, []api.Span{sp(3, 9)}, api.OK},
		// no pair of neighbors contradicts here, but a way does
		{row(sp(0), sp(-100, 100), sp(31)), 15, nil, api.ErrConflict},
		{row(sp(0), sp(-100, 100), sp(30)), 15, []api.Span{sp(0), sp(15), sp(30)}, api.OK},
		{row(sp(30), sp(-100, 100), sp(0)), 15, []api.Span{sp(30), sp(15), sp(0)}, api.OK},
		{cross, 7, []api.Span{sp(-14, 14), sp(-7, 7), sp(-14, 14), sp(-7, 7), sp(0), sp(-7, 7), sp(-14, 14), sp(-7, 7), sp(-14, 14)}, api.OK},
		{far, 2 * api.MaxGround, far.Ground, api.OK},
		{far, 2*api.MaxGround - 1, nil, api.ErrConflict},
		{exampleA(), 2*api.MaxGround + 1, nil, api.ErrRange},
		{exampleA(), -1, nil, api.ErrRange},
		{exampleA(), math.MaxInt, nil, api.ErrRange},
		{exampleA(), math.MinInt, nil, api.ErrRange},
	} {
		g, e := grid.Tighten(x.g, x.step)
		want := api.Grid{}
		if x.e == api.OK {
			want = x.g
			want.Ground = x.want
		}
		if e != x.e || !same(g, want) {
			t.Error(k, g, e)
		}
	}
}

func keepsStep(g api.Grid, h []int, step int) bool {
	for cell := range h {
		for _, other := range besides(g, cell) {
			if h[cell]-h[other] > step {
				return false
			}
		}
	}
	return true
}

// P1.4, P1.9: the spans are just those of the terrains that keep the step, and they stay when tightened again.
func TestTightenTerrains(t *testing.T) {
	r := dice(8)
	conflicts := 0
	for k := range 400 {
		size := [][2]int{{1, 1}, {3, 1}, {1, 4}, {2, 2}, {3, 2}}[k%5]
		g := randomGrid(r, size[0], size[1], 4, 4)
		step := r.IntN(4)
		want := make([]api.Span, len(g.Ground))
		none := true
		terrains(g, func(h []int) {
			if keepsStep(g, h, step) {
				for cell, n := range h {
					wider(&want[cell], n, none)
				}
				none = false
			}
		})
		got, e := grid.Tighten(g, step)
		if none {
			conflicts++
			if e != api.ErrConflict || !isZero(got) {
				t.Error(k, g, step, got, e)
			}
			continue
		}
		if e != api.OK || !slices.Equal(got.Ground, want) || got.Wide != g.Wide || got.High != g.High || got.Size != g.Size {
			t.Error(k, g, step, got, e, want)
		}
		if again, e := grid.Tighten(got, step); e != api.OK || !same(again, got) {
			t.Error(k, "again", got, again, e)
		}
	}
	if conflicts == 0 || conflicts == 400 {
		t.Error("conflicts", conflicts)
	}
}

// P1.9 in great grids: a terrain that keeps the step is left, both ends are such terrains, and nothing changes when tightened again.
func TestTightenGreatGrids(t *testing.T) {
	r := dice(9)
	for k := range 20 {
		step := 1 + r.IntN(1000)
		h := make([]int, api.MaxSide*api.MaxSide)
		g := flat(api.MaxSide, api.MaxSide)
		for cell := range h {
			x, y := cell%api.MaxSide, cell/api.MaxSide
			h[cell] = step/2*(x-y) + r.IntN(step/2+1)
			g.Ground[cell] = sp(h[cell]-r.IntN(20*step), h[cell]+r.IntN(20*step))
		}
		got, e := grid.Tighten(g, step)
		if e != api.OK {
			t.Fatal(k, e)
		}
		for cell, s := range got.Ground {
			if h[cell] < s.Lo || h[cell] > s.Hi || !spanIn(s, g.Ground[cell]) {
				t.Error(k, cell, h[cell], s, g.Ground[cell])
			}
		}
		if !keepsStep(g, ends(got, func(s api.Span) int { return s.Lo }), step) || !keepsStep(g, ends(got, func(s api.Span) int { return s.Hi }), step) {
			t.Error(k, "the ends are no terrains")
		}
		if again, e := grid.Tighten(got, step); e != api.OK || !same(again, got) {
			t.Error(k, "again", e)
		}
	}
}

// P1.7, P1.8, P1.9: what surveys, soundings and steps leave lies within what was known, and so does what follows from it.
func TestWhatFollowsFromSurveys(t *testing.T) {
	r := dice(10)
	for k := range 30 {
		g := randomGrid(r, 6, 5, 50, 60)
		b := copyOf(g)
		for i := range b.Ground {
			b.Ground[i] = sp(b.Ground[i].Lo-r.IntN(5), b.Ground[i].Lo+r.IntN(30))
		}
		narrow, _, e := grid.Narrow(g, b)
		if e != api.OK {
			t.Fatal(k, e)
		}
		measured, _, e := grid.Measure(narrow, []grid.Sounding{sounding(7, narrow.Ground[7].Lo, r.IntN(5)), sounding(8, narrow.Ground[8].Hi, r.IntN(5))})
		if e != api.OK {
			t.Fatal(k, e)
		}
		tight, e := grid.Tighten(measured, 110)
		if e != api.OK {
			t.Fatal(k, e)
		}
		sea := randomSea(r, g)
		for i, l := range [][]api.Grid{{narrow, g}, {narrow, b}, {measured, narrow}, {tight, measured}} {
			less, _ := grid.Sills(l[0], sea)
			more, _ := grid.Sills(l[1], sea)
			for cell := range less {
				if !spanIn(l[0].Ground[cell], l[1].Ground[cell]) || !spanIn(less[cell], more[cell]) {
					t.Error(k, i, cell, less[cell], more[cell])
				}
			}
		}
	}
}
