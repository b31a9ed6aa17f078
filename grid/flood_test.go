package grid_test

import (
	"math"
	"slices"
	"testing"

	"tidewall/api"
	"tidewall/grid"
)

// terrains calls f with each terrain of a grid, in a list that is used again.
func terrains(g api.Grid, f func(h []int)) {
	h := make([]int, len(g.Ground))
	var fill func(cell int)
	fill = func(cell int) {
		if cell == len(h) {
			f(h)
			return
		}
		for n := g.Ground[cell].Lo; n <= g.Ground[cell].Hi; n++ {
			h[cell] = n
			fill(cell + 1)
		}
	}
	fill(0)
}

func besides(g api.Grid, cell int) []int {
	var l []int
	for other := range g.Ground {
		dx, dy := other%g.Wide-cell%g.Wide, other/g.Wide-cell/g.Wide
		if dx*dx+dy*dy == 1 {
			l = append(l, other)
		}
	}
	return l
}

// reachable says which cells have a way from the sea with no height above s, and without the cell `without` (-1: none).
func reachable(g api.Grid, h, sea []int, s, without int) []bool {
	got := make([]bool, len(h))
	var visit func(cell int)
	visit = func(cell int) {
		if got[cell] || cell == without || h[cell] > s {
			return
		}
		got[cell] = true
		for _, other := range besides(g, cell) {
			visit(other)
		}
	}
	for _, cell := range sea {
		visit(cell)
	}
	return got
}

// leastLevel is the least one of the heights with which a way is as asked for.
func leastLevel(h []int, asked func(s int) bool) int {
	levels := slices.Clone(h)
	slices.Sort(levels)
	for _, s := range levels {
		if asked(s) {
			return s
		}
	}
	panic("all cells are joined")
}

// sillOf is the sill of a cell in one terrain, by its definition.
func sillOf(g api.Grid, h, sea []int, cell int) int {
	return leastLevel(h, func(s int) bool { return reachable(g, h, sea, s, -1)[cell] })
}

// pondOf is the pond of a cell in one terrain, by its definition.
func pondOf(g api.Grid, h, sea []int, cell int) int {
	if slices.Contains(sea, cell) {
		return 0
	}
	m := leastLevel(h, func(s int) bool {
		got := reachable(g, h, sea, s, cell)
		return slices.ContainsFunc(besides(g, cell), func(other int) bool { return got[other] })
	})
	return max(0, m-h[cell])
}

func wider(s *api.Span, n int, first bool) {
	if first {
		*s = sp(n)
	}
	s.Lo, s.Hi = min(s.Lo, n), max(s.Hi, n)
}

// P1.2, P1.6: the spans of Sills and Ponds are just those of all terrains, and Flood says what all, and some, of them say.
func TestFloodOfAllTerrains(t *testing.T) {
	r := dice(2)
	for k := range 120 {
		size := [][2]int{{1, 1}, {4, 1}, {2, 2}, {1, 5}, {3, 2}, {2, 3}, {3, 3}}[k%7]
		wide := 2
		if size[0]*size[1] > 5 {
			wide = 1
		}
		g := randomGrid(r, size[0], size[1], 4, wide)
		sea := randomSea(r, g)
		level := sp(r.IntN(9) - 4)
		level.Hi += r.IntN(3)
		n := len(g.Ground)
		sills, ponds, sure, may := make([]api.Span, n), make([]api.Span, n), slices.Repeat([]bool{true}, n), make([]bool, n)
		first := true
		terrains(g, func(h []int) {
			for cell := range h {
				sill := sillOf(g, h, sea, cell)
				wider(&sills[cell], sill, first)
				wider(&ponds[cell], pondOf(g, h, sea, cell), first)
				for s := level.Lo; s <= level.Hi; s++ {
					sure[cell] = sure[cell] && s > sill
					may[cell] = may[cell] || s > sill
				}
			}
			first = false
		})
		if l, e := grid.Sills(g, sea); e != api.OK || !slices.Equal(l, sills) {
			t.Error("Sills", g, sea, l, e, sills)
		}
		if l, e := grid.Ponds(g, sea); e != api.OK || !slices.Equal(l, ponds) {
			t.Error("Ponds", g, sea, l, e, ponds)
		}
		if a, b, e := grid.Flood(g, sea, level); e != api.OK || !slices.Equal(a, sure) || !slices.Equal(b, may) {
			t.Error("Flood", g, sea, level, a, b, e, sure, may)
		}
	}
}

func ends(g api.Grid, end func(api.Span) int) []int {
	var h []int
	for _, s := range g.Ground {
		h = append(h, end(s))
	}
	return h
}

// P1.2: in greater grids, with the terrains at both ends.
func TestFloodOfGreaterGrids(t *testing.T) {
	r := dice(3)
	for k := range 12 {
		g := randomGrid(r, 3+r.IntN(6), 3+r.IntN(6), 30, 20)
		if k == 0 {
			g = randomGrid(r, 9, 9, api.MaxGround, api.MaxGround)
		}
		sea := randomSea(r, g)
		low, high := ends(g, func(s api.Span) int { return s.Lo }), ends(g, func(s api.Span) int { return s.Hi })
		sills, _ := grid.Sills(g, sea)
		ponds, _ := grid.Ponds(g, sea)
		for cell, s := range g.Ground {
			if want := sp(sillOf(g, low, sea, cell), sillOf(g, high, sea, cell)); sills[cell] != want {
				t.Error("Sills", k, cell, sills[cell], want)
			}
			shallow, deep := slices.Clone(low), slices.Clone(high)
			shallow[cell], deep[cell] = s.Hi, s.Lo
			if want := sp(pondOf(g, shallow, sea, cell), pondOf(g, deep, sea, cell)); ponds[cell] != want {
				t.Error("Ponds", k, cell, ponds[cell], want)
			}
		}
	}
}

// P1.2 in the greatest grids: a way that winds through all of them, between walls.
func TestFloodOfGreatestGrid(t *testing.T) {
	g := flat(api.MaxSide, api.MaxSide)
	for cell := range g.Ground {
		x, y := cell%api.MaxSide, cell/api.MaxSide
		gap := api.MaxSide - 1
		if y%4 == 3 {
			gap = 0
		}
		if y%2 == 1 && x != gap {
			g.Ground[cell] = sp(900, 1000)
		} else {
			g.Ground[cell] = sp(y, y+1)
		}
	}
	sills, e := grid.Sills(g, []int{0})
	if e != api.OK {
		t.Fatal(e)
	}
	for cell, s := range sills {
		y := cell / api.MaxSide
		want := sp(y, y+1)
		if g.Ground[cell].Lo == 900 {
			want = sp(900, 1000)
		}
		if s != want {
			t.Error(cell, s, want)
		}
	}
	gapOfLastRow := len(g.Ground) - api.MaxSide
	ponds, _ := grid.Ponds(g, []int{gapOfLastRow})
	if want := sp(api.MaxSide-2, api.MaxSide); ponds[0] != want {
		t.Error(ponds[0], want)
	}
}

// The examples of the chapter, and example 1 of DOC.md.
func TestFloodExamples(t *testing.T) {
	sea := []int{0}
	if l, e := grid.Sills(exampleA(), sea); e != api.OK || !slices.Equal(l, []api.Span{sp(-500), sp(10, 20), sp(10, 20), sp(10, 40)}) {
		t.Error(l, e)
	}
	if l, e := grid.Ponds(exampleA(), sea); e != api.OK || !slices.Equal(l, []api.Span{sp(0), sp(0), sp(20, 50), sp(0, 15)}) {
		t.Error(l, e)
	}
	all := []bool{true, true, true, true}
	for k, x := range []struct {
		level     api.Span
		sure, may []bool
	}{
		{sp(15, 25), []bool{true, false, false, false}, all},
		{sp(21, 21), []bool{true, true, true, false}, all},
		// a level that is not above the sill does not flood
		{sp(20, 20), []bool{true, false, false, false}, all},
		{sp(10, 10), []bool{true, false, false, false}, []bool{true, false, false, false}},
		{sp(11, 11), []bool{true, false, false, false}, all},
		{sp(-500, -500), make([]bool, 4), make([]bool, 4)},
		{sp(-500, -499), make([]bool, 4), []bool{true, false, false, false}},
		{sp(40, 41), []bool{true, true, true, false}, all},
		{sp(41, 41), all, all},
		{sp(-api.MaxLevel, api.MaxLevel), make([]bool, 4), all},
		{sp(api.MaxLevel), all, all},
		{sp(-api.MaxLevel), make([]bool, 4), make([]bool, 4)},
	} {
		if a, b, e := grid.Flood(exampleA(), sea, x.level); e != api.OK || !slices.Equal(a, x.sure) || !slices.Equal(b, x.may) {
			t.Error(k, a, b, e)
		}
	}
}

// The order of the sea does not matter, and its cells can be listed twice; all cells can be sea.
func TestSeaIsASet(t *testing.T) {
	g := randomGrid(dice(4), 5, 4, 50, 20)
	sills, _ := grid.Sills(g, []int{3, 17})
	ponds, _ := grid.Ponds(g, []int{3, 17})
	sure, may, _ := grid.Flood(g, []int{3, 17}, sp(0, 10))
	for k, sea := range [][]int{{17, 3}, {3, 3, 17, 3}, {17, 17, 3}, slices.Repeat([]int{17, 3}, 5000)} {
		l, _ := grid.Sills(g, sea)
		m, _ := grid.Ponds(g, sea)
		a, b, _ := grid.Flood(g, sea, sp(0, 10))
		if !slices.Equal(l, sills) || !slices.Equal(m, ponds) || !slices.Equal(a, sure) || !slices.Equal(b, may) {
			t.Error(k, l, m, a, b)
		}
	}
	all := []int{0, 1, 2, 3}
	if l, e := grid.Sills(exampleA(), all); e != api.OK || !slices.Equal(l, exampleA().Ground) {
		t.Error(l, e)
	}
	if l, e := grid.Ponds(exampleA(), all); e != api.OK || !slices.Equal(l, make([]api.Span, 4)) {
		t.Error(l, e)
	}
}

// P1.2: the errors, and their order.
func TestFloodErrors(t *testing.T) {
	for k, x := range []struct {
		sea   []int
		level api.Span
		e     api.Errno
	}{
		{nil, sp(1, 0), api.ErrEmpty},
		{[]int{}, sp(0), api.ErrEmpty},
		{[]int{4}, sp(1, 0), api.ErrNone},
		{[]int{0, -1}, sp(0), api.ErrNone},
		{[]int{0, 0, math.MaxInt, 0}, sp(0), api.ErrNone},
		{[]int{math.MinInt}, sp(0), api.ErrNone},
	} {
		if l, e := grid.Sills(exampleA(), x.sea); e != x.e || len(l) != 0 {
			t.Error("Sills", k, l, e)
		}
		if l, e := grid.Ponds(exampleA(), x.sea); e != x.e || len(l) != 0 {
			t.Error("Ponds", k, l, e)
		}
		if a, b, e := grid.Flood(exampleA(), x.sea, x.level); e != x.e || len(a)+len(b) != 0 {
			t.Error("Flood", k, a, b, e)
		}
	}
	for k, level := range []api.Span{sp(1, 0), sp(-api.MaxLevel-1, 0), sp(0, api.MaxLevel+1), sp(-api.MaxLevel - 1), sp(api.MaxLevel + 1), sp(math.MinInt, math.MaxInt), sp(math.MaxInt, math.MinInt)} {
		if a, b, e := grid.Flood(exampleA(), []int{0}, level); e != api.ErrRange || len(a)+len(b) != 0 {
			t.Error("level", k, a, b, e)
		}
	}
}

// P1.6, P1.7 and G1: what is known better lies within what was known, and what is sure may be.
func TestFewerTerrains(t *testing.T) {
	r := dice(5)
	for k := range 60 {
		g := randomGrid(r, 1+r.IntN(api.MaxSide), 1+r.IntN(api.MaxSide), 500, 200)
		n := narrower(r, g)
		sea := randomSea(r, g)
		level := sp(r.IntN(1000) - 500)
		level.Hi += r.IntN(100)
		sills, _ := grid.Sills(g, sea)
		fewerSills, _ := grid.Sills(n, sea)
		ponds, _ := grid.Ponds(g, sea)
		fewerPonds, _ := grid.Ponds(n, sea)
		sure, may, _ := grid.Flood(g, sea, level)
		fewerSure, fewerMay, e := grid.Flood(n, sea, sp(level.Lo, (level.Lo+level.Hi)/2))
		if e != api.OK || len(fewerSure) != len(g.Ground) {
			t.Fatal(k, e)
		}
		for cell := range g.Ground {
			if !spanIn(fewerSills[cell], sills[cell]) || !spanIn(fewerPonds[cell], ponds[cell]) {
				t.Error(k, cell, fewerSills[cell], sills[cell], fewerPonds[cell], ponds[cell])
			}
			if sure[cell] && !fewerSure[cell] || fewerMay[cell] && !may[cell] || sure[cell] && !may[cell] || fewerSure[cell] && !fewerMay[cell] {
				t.Error(k, cell, sure[cell], may[cell], fewerSure[cell], fewerMay[cell])
			}
		}
	}
}
