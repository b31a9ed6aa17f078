package grid_test

import (
	"math"
	"math/rand/v2"
	"slices"
	"testing"

	"tidewall/api"
	"tidewall/grid"
)

// sp is a span, or, with one number, a point.
func sp(lo int, hi ...int) api.Span {
	if len(hi) == 0 {
		return api.Span{Lo: lo, Hi: lo}
	}
	return api.Span{Lo: lo, Hi: hi[0]}
}

func row(l ...api.Span) api.Grid { return api.Grid{Wide: len(l), High: 1, Size: 100, Ground: l} }

// exampleA is the grid A of the chapter's examples.
func exampleA() api.Grid { return row(sp(-500), sp(10, 20), sp(-30, -10), sp(5, 40)) }

func flat(wide, high int) api.Grid {
	return api.Grid{Wide: wide, High: high, Size: 1, Ground: make([]api.Span, wide*high)}
}

func same(a, b api.Grid) bool {
	return a.Wide == b.Wide && a.High == b.High && a.Size == b.Size && slices.Equal(a.Ground, b.Ground)
}

func isZero(g api.Grid) bool { return same(g, api.Grid{}) }

func copyOf(g api.Grid) api.Grid {
	g.Ground = slices.Clone(g.Ground)
	return g
}

func spanIn(a, b api.Span) bool { return a.Lo >= b.Lo && a.Hi <= b.Hi }

func dice(seed uint64) *rand.Rand { return rand.New(rand.NewPCG(seed, 1)) }

// randomGrid has heights from -most to most, in spans of at most wide more than a point.
func randomGrid(r *rand.Rand, columns, rows, most, wide int) api.Grid {
	g := api.Grid{Wide: columns, High: rows, Size: 1 + r.IntN(api.MaxSize), Ground: make([]api.Span, columns*rows)}
	for i := range g.Ground {
		lo := r.IntN(2*most+1) - most
		g.Ground[i] = sp(lo, min(lo+r.IntN(wide+1), most))
	}
	return g
}

// narrower has a part of each span of a grid.
func narrower(r *rand.Rand, g api.Grid) api.Grid {
	n := copyOf(g)
	for i, s := range n.Ground {
		lo := s.Lo + r.IntN(s.Hi-s.Lo+1)
		n.Ground[i] = sp(lo, lo+r.IntN(s.Hi-lo+1))
	}
	return n
}

func randomSea(r *rand.Rand, g api.Grid) []int {
	sea := make([]int, 1+r.IntN(3))
	for i := range sea {
		sea[i] = r.IntN(len(g.Ground))
	}
	return sea
}

// badGrids are grids that are not valid, each with its error.
func badGrids() []struct {
	g api.Grid
	e api.Errno
} {
	with := func(change func(*api.Grid)) api.Grid {
		g := exampleA()
		change(&g)
		return g
	}
	return []struct {
		g api.Grid
		e api.Errno
	}{
		{api.Grid{}, api.ErrRange},
		{with(func(g *api.Grid) { g.Wide = 0 }), api.ErrRange},
		{with(func(g *api.Grid) { g.High = 0 }), api.ErrRange},
		{with(func(g *api.Grid) { g.Size = 0 }), api.ErrRange},
		{with(func(g *api.Grid) { g.Wide, g.High = -4, -1 }), api.ErrRange},
		{with(func(g *api.Grid) { g.Wide = math.MinInt }), api.ErrRange},
		{with(func(g *api.Grid) { g.High = math.MaxInt }), api.ErrRange},
		{with(func(g *api.Grid) { g.Wide, g.High = 1<<32, 1<<32 }), api.ErrRange},
		{with(func(g *api.Grid) { g.Size = -1 }), api.ErrRange},
		{with(func(g *api.Grid) { g.Size = api.MaxSize + 1 }), api.ErrRange},
		{flat(api.MaxSide+1, 1), api.ErrRange},
		{flat(1, api.MaxSide+1), api.ErrRange},
		{with(func(g *api.Grid) { g.Wide, g.Ground = 0, nil }), api.ErrRange},
		{with(func(g *api.Grid) { g.Ground = g.Ground[:3] }), api.ErrShape},
		{with(func(g *api.Grid) { g.Ground = append(g.Ground, sp(0)) }), api.ErrShape},
		{with(func(g *api.Grid) { g.Ground = nil }), api.ErrShape},
		{with(func(g *api.Grid) { g.Ground = []api.Span{} }), api.ErrShape},
		{with(func(g *api.Grid) { g.Ground = []api.Span{sp(1, 0)} }), api.ErrShape},
		{with(func(g *api.Grid) { g.Wide, g.High = 1, 1 }), api.ErrShape},
		{with(func(g *api.Grid) { g.Ground[3] = sp(1, 0) }), api.ErrRange},
		{with(func(g *api.Grid) { g.Ground[0] = sp(-api.MaxGround-1, 0) }), api.ErrRange},
		{with(func(g *api.Grid) { g.Ground[0] = sp(0, api.MaxGround+1) }), api.ErrRange},
		{with(func(g *api.Grid) { g.Ground[0] = sp(-api.MaxGround - 1) }), api.ErrRange},
		{with(func(g *api.Grid) { g.Ground[2] = sp(api.MaxGround + 1) }), api.ErrRange},
		{with(func(g *api.Grid) { g.Ground[2] = sp(math.MinInt, math.MaxInt) }), api.ErrRange},
		{with(func(g *api.Grid) { g.Ground[2] = sp(math.MaxInt, math.MinInt) }), api.ErrRange},
	}
}

// P1.1: Check, and that each function with a grid has its error first, with zero values beside it (R1, R2).
func TestCheckComesFirst(t *testing.T) {
	for k, bad := range badGrids() {
		if e := grid.Check(bad.g); e != bad.e {
			t.Error("Check", k, e, bad.e)
		}
		if l, e := grid.Near(bad.g, -1); e != bad.e || len(l) != 0 {
			t.Error("Near", k, l, e)
		}
		if l, e := grid.Sills(bad.g, nil); e != bad.e || len(l) != 0 {
			t.Error("Sills", k, l, e)
		}
		if a, b, e := grid.Flood(bad.g, []int{-1}, sp(1, 0)); e != bad.e || len(a)+len(b) != 0 {
			t.Error("Flood", k, a, b, e)
		}
		if l, e := grid.Ponds(bad.g, nil); e != bad.e || len(l) != 0 {
			t.Error("Ponds", k, l, e)
		}
		if g, at, e := grid.Measure(bad.g, make([]grid.Sounding, grid.MaxSoundings+1)); e != bad.e || at != 0 || !isZero(g) {
			t.Error("Measure", k, g, at, e)
		}
		if g, e := grid.Tighten(bad.g, -1); e != bad.e || !isZero(g) {
			t.Error("Tighten", k, g, e)
		}
		if s, e := grid.Write(bad.g); e != bad.e || s != "" {
			t.Error("Write", k, s, e)
		}
		if g, at, e := grid.Narrow(bad.g, flat(2, 2)); e != bad.e || at != 0 || !isZero(g) {
			t.Error("Narrow", k, g, at, e)
		}
		if g, at, e := grid.Narrow(flat(2, 2), bad.g); e != bad.e || at != 0 || !isZero(g) {
			t.Error("Narrow, b", k, g, at, e)
		}
	}
	shape, size := row(sp(0)), row(sp(0))
	shape.Ground, size.Size = nil, 0
	if _, _, e := grid.Narrow(shape, size); e != api.ErrShape {
		t.Error("the error of a comes before that of b", e)
	}
	if _, _, e := grid.Narrow(size, shape); e != api.ErrRange {
		t.Error("the error of a comes before that of b", e)
	}
}

// P1.1, R7: what is just within the limits is valid.
func TestCheckAtLimits(t *testing.T) {
	greatest := flat(api.MaxSide, api.MaxSide)
	greatest.Size = api.MaxSize
	for i := range greatest.Ground {
		greatest.Ground[i] = sp(-api.MaxGround, api.MaxGround)
	}
	for k, g := range []api.Grid{exampleA(), flat(1, 1), flat(api.MaxSide, 1), flat(1, api.MaxSide), greatest, row(sp(-api.MaxGround), sp(api.MaxGround))} {
		if e := grid.Check(g); e != api.OK {
			t.Error(k, e)
		}
	}
}

// P1.1: the neighbors, in the order east, north, west, south.
func TestNear(t *testing.T) {
	for k, x := range []struct {
		g    api.Grid
		cell int
		want []int
		e    api.Errno
	}{
		{exampleA(), 0, []int{1}, api.OK},
		{exampleA(), 1, []int{2, 0}, api.OK},
		{exampleA(), 3, []int{2}, api.OK},
		{exampleA(), 4, nil, api.ErrNone},
		{exampleA(), -1, nil, api.ErrNone},
		{exampleA(), math.MaxInt, nil, api.ErrNone},
		{exampleA(), math.MinInt, nil, api.ErrNone},
		{flat(1, 1), 0, nil, api.OK},
		{flat(1, 1), 1, nil, api.ErrNone},
		{flat(1, 3), 1, []int{2, 0}, api.OK},
		{flat(3, 2), 0, []int{1, 3}, api.OK},
		{flat(3, 2), 1, []int{2, 4, 0}, api.OK},
		{flat(3, 2), 2, []int{5, 1}, api.OK},
		{flat(3, 2), 3, []int{4, 0}, api.OK},
		{flat(3, 2), 4, []int{5, 3, 1}, api.OK},
		{flat(3, 2), 5, []int{4, 2}, api.OK},
		{flat(4, 3), 5, []int{6, 9, 4, 1}, api.OK},
	} {
		if l, e := grid.Near(x.g, x.cell); e != x.e || !slices.Equal(l, x.want) {
			t.Error(k, l, e)
		}
	}
}

// Near is what the definition says, for each cell of a grid whose sides differ.
func TestNearByDefinition(t *testing.T) {
	g := flat(7, 5)
	for cell := range g.Ground {
		x, y := cell%7, cell/7
		var want []int
		for _, d := range [4][2]int{{1, 0}, {0, 1}, {-1, 0}, {0, -1}} {
			if u, v := x+d[0], y+d[1]; u >= 0 && u < 7 && v >= 0 && v < 5 {
				want = append(want, v*7+u)
			}
		}
		if l, e := grid.Near(g, cell); e != api.OK || !slices.Equal(l, want) {
			t.Error(cell, l, e, want)
		}
	}
}
