package grid

import (
	"cmp"

	"tidewall/api"
)

// Sills returns, for each cell, the span of which level the sea has to exceed to flood it.
func Sills(g api.Grid, sea []int) ([]api.Span, api.Errno) {
	if e := checkSea(g, sea); e != api.OK {
		return nil, e
	}
	return sills(g, sea), api.OK
}

// Flood returns which cells are flooded for sure, and which may be.
func Flood(g api.Grid, sea []int, level api.Span) (sure, may []bool, e api.Errno) {
	if e := checkSea(g, sea); e != api.OK {
		return nil, nil, e
	}
	if !isSpanWithin(level, api.MaxLevel) {
		return nil, nil, api.ErrRange
	}
	for _, sill := range sills(g, sea) {
		sure = append(sure, level.Lo > sill.Hi)
		may = append(may, level.Hi > sill.Lo)
	}
	return sure, may, api.OK
}

// Ponds returns, for each cell, the span of how deep the water is that remains in it when the sea has gone.
func Ponds(g api.Grid, sea []int) ([]api.Span, api.Errno) {
	if e := checkSea(g, sea); e != api.OK {
		return nil, e
	}
	isSea := make([]bool, len(g.Ground))
	for _, cell := range sea {
		isSea[cell] = true
	}
	all := sills(g, sea)
	ponds := make([]api.Span, len(g.Ground))
	for cell, ground := range g.Ground {
		if isSea[cell] {
			continue
		}
		level := rim(g, all, cell)
		ponds[cell] = api.Span{Lo: max(0, level.Lo-ground.Hi), Hi: max(0, level.Hi-ground.Lo)}
	}
	return ponds, api.OK
}

func checkSea(g api.Grid, sea []int) api.Errno {
	if e := Check(g); e != api.OK {
		return e
	}
	if len(sea) == 0 {
		return api.ErrEmpty
	}
	for _, cell := range sea {
		if !hasCell(g, cell) {
			return api.ErrNone
		}
	}
	return api.OK
}

// sills finds both ends of the sills in one terrain each: no sill falls where some ground is higher.
func sills(g api.Grid, sea []int) []api.Span {
	lower := sillsOfEnd(g, sea, func(s api.Span) int { return s.Lo })
	upper := sillsOfEnd(g, sea, func(s api.Span) int { return s.Hi })
	return join(lower, upper)
}

// sillsOfEnd returns the sills in the terrain whose heights are this end of the spans.
func sillsOfEnd(g api.Grid, sea []int, end func(s api.Span) int) []int {
	height := func(cell int) int { return end(g.Ground[cell]) }
	climb := func(sill, cell int) int { return max(sill, height(cell)) }
	return best(g, sea, height, climb, cmp.Less[int])
}

// rim returns the span of the level to which water can stand in a cell that is not sea before it flows off: the least sill of a neighbor.
// Only ways without the cell count for it, but it need not be kept off them: where a way comes to the cell it has been in a neighbor before, and is no higher there.
// So the height of the cell itself has no part in it.
func rim(g api.Grid, sills []api.Span, cell int) api.Span {
	least := api.Span{Lo: api.MaxGround, Hi: api.MaxGround}
	for neighbor := range neighbors(g, cell) {
		least.Lo = min(least.Lo, sills[neighbor].Lo)
		least.Hi = min(least.Hi, sills[neighbor].Hi)
	}
	return least
}
