package wave

import (
	"tidewall/api"
	"tidewall/grid"
)

// waters are all that can happen on some ground, between two extremes: that as much water comes as can, and as early, or that no more comes than must, and no earlier.
type waters struct {
	most  extreme
	least extreme
}

// newWaters takes a grid, a level and a model without errors.
func newWaters(g api.Grid, sea api.Span, m Model) waters {
	var neighbors [][]int
	for cell := range g.Ground {
		l, _ := grid.Near(g, cell)
		neighbors = append(neighbors, l)
	}
	extremeOf := func(more, less side) extreme {
		return extreme{
			side:      more,
			less:      less,
			neighbors: neighbors,
			places:    placesOf(g.Ground, sea, more, less),
			level:     more.end(sea),
			keep:      more.end(m.Keep),
			size:      g.Size,
			delay:     less.end(m.Land) * g.Size,
			loss:      less.end(m.Loss),
		}
	}
	return waters{most: extremeOf(above(), below()), least: extremeOf(below(), above())}
}

// bounds takes starts without errors.
func (w waters) bounds(l []Start) []Bound {
	most, least := w.most.effects(l), w.least.effects(l)
	var bounds []Bound
	for cell, a := range least {
		b := most[cell]
		bounds = append(bounds, Bound{
			Arrive: api.Span{Lo: b.arrive, Hi: a.arrive},
			Rise:   api.Span{Lo: a.rise, Hi: b.rise},
			Top:    api.Span{Lo: a.top, Hi: b.top},
			Flow:   api.Span{Lo: a.flow, Hi: b.flow},
		})
	}
	return bounds
}

func depthOf(sea, ground api.Span) api.Span {
	return api.Span{Lo: sea.Lo - ground.Hi, Hi: sea.Hi - ground.Lo}
}
