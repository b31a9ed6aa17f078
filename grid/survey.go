package grid

import (
	"cmp"
	"slices"

	"tidewall/api"
)

// Narrow returns what two surveys say together; if they contradict each other, the first cell in which they do.
func Narrow(a, b api.Grid) (api.Grid, int, api.Errno) {
	if e := Check(a); e != api.OK {
		return api.Grid{}, 0, e
	}
	if e := Check(b); e != api.OK {
		return api.Grid{}, 0, e
	}
	if a.Wide != b.Wide || a.High != b.High || a.Size != b.Size {
		return api.Grid{}, 0, api.ErrShape
	}
	ground := slices.Clone(a.Ground)
	for cell := range ground {
		ground[cell] = common(ground[cell], b.Ground[cell])
		if isEmpty(ground[cell]) {
			return api.Grid{}, cell, api.ErrConflict
		}
	}
	return withGround(a, ground), 0, api.OK
}

// Measure returns a grid narrowed by soundings; if they contradict it, the first one that does.
func Measure(g api.Grid, l []Sounding) (api.Grid, int, api.Errno) {
	if e := Check(g); e != api.OK {
		return api.Grid{}, 0, e
	}
	if e := checkSoundings(g, l); e != api.OK {
		return api.Grid{}, 0, e
	}
	ground := slices.Clone(g.Ground)
	for i, s := range l {
		ground[s.Cell] = common(ground[s.Cell], api.Span{Lo: s.Height - s.Error, Hi: s.Height + s.Error})
		if isEmpty(ground[s.Cell]) {
			return api.Grid{}, i, api.ErrConflict
		}
	}
	return withGround(g, ground), 0, api.OK
}

// Tighten returns a grid narrowed by a greatest step between neighbors.
func Tighten(g api.Grid, step int) (api.Grid, api.Errno) {
	if e := Check(g); e != api.OK {
		return api.Grid{}, e
	}
	if !within(step, 0, 2*api.MaxGround) {
		return api.Grid{}, api.ErrRange
	}
	ground := tightened(g, step)
	// The ends that are left keep the step among themselves, so they are terrains, unless they have crossed.
	if slices.ContainsFunc(ground, isEmpty) {
		return api.Grid{}, api.ErrConflict
	}
	return withGround(g, ground), api.OK
}

// tightened returns how high each cell must be at least, and can be at most, for what can be reached from it in steps.
func tightened(g api.Grid, step int) []api.Span {
	cells := make([]int, len(g.Ground))
	for cell := range cells {
		cells[cell] = cell
	}
	lower := best(g, cells,
		func(cell int) int { return g.Ground[cell].Lo },
		func(height, _ int) int { return height - step },
		func(a, b int) bool { return a > b })
	upper := best(g, cells,
		func(cell int) int { return g.Ground[cell].Hi },
		func(height, _ int) int { return height + step },
		cmp.Less[int])
	return join(lower, upper)
}

func checkSoundings(g api.Grid, l []Sounding) api.Errno {
	if len(l) > MaxSoundings {
		return api.ErrMany
	}
	for _, s := range l {
		if !hasCell(g, s.Cell) {
			return api.ErrNone
		}
		if !within(s.Height, -api.MaxGround, api.MaxGround) || !within(s.Error, 0, MaxError) {
			return api.ErrRange
		}
	}
	return api.OK
}

// common returns the integers that two spans have together; it is empty if they have none.
func common(a, b api.Span) api.Span {
	return api.Span{Lo: max(a.Lo, b.Lo), Hi: min(a.Hi, b.Hi)}
}

func isEmpty(s api.Span) bool {
	return s.Lo > s.Hi
}

func withGround(g api.Grid, ground []api.Span) api.Grid {
	return api.Grid{Wide: g.Wide, High: g.High, Size: g.Size, Ground: ground}
}
