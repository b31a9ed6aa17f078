package surge

import (
	"iter"

	"tidewall/api"
)

const (
	fine     = 256        // fine levels of a centimetre
	gravity  = 981        // in centimetres per second, in each second
	dragUnit = 1000000000 // drags of 1
	pressure = 10         // of a pascal, in centimetres of water, times gravity
)

// Setup returns how much wind in one direction raises the water, in fine levels.
func Setup(g api.Grid, sea api.Span, m Model, cell, dir int, speed api.Span) (api.Span, api.Errno) {
	if e := checkPlace(g, sea, m, cell); e != api.OK {
		return api.Span{}, e
	}
	if !isDirection(dir) || !isSpeed(speed) {
		return api.Span{}, api.ErrRange
	}
	return waters{g, bounds{sea}}.setup(m, cell, dir, speed).Span, api.OK
}

// Steady returns the level to which a wind, with its pressure, brings the water in the end, in fine levels.
func Steady(g api.Grid, sea api.Span, m Model, cell int, w Wind) (api.Span, api.Errno) {
	if e := checkPlace(g, sea, m, cell); e != api.OK {
		return api.Span{}, e
	}
	if e := CheckWind(w); e != api.OK {
		return api.Span{}, e
	}
	return waters{g, bounds{sea}}.steady(m, cell, w).Span, api.OK
}

// steady takes a valid wind, which has a direction.
func (w waters) steady(m Model, cell int, wind Wind) bounds {
	var setups []bounds
	for dir := range directions {
		if wind.Dirs>>dir&1 == 1 {
			setups = append(setups, w.setup(m, cell, dir, wind.Speed))
		}
	}
	return around(setups...).plus(riseByPressure(wind.Low))
}

func riseByPressure(low api.Span) bounds {
	return bounds{api.Span{Lo: down(low.Lo*pressure*fine, gravity), Hi: up(low.Hi*pressure*fine, gravity)}}
}

// setup returns what the water between the cell and where the wind comes from gives, less what the wind takes away on the other side.
func (w waters) setup(m Model, cell, dir int, speed api.Span) bounds {
	return w.rise(m, cell, opposite(dir), speed).minus(w.rise(m, cell, dir, speed))
}

// rise returns the rise over a fetch. Deep water rises less, so the greatest depths belong to the lower bound.
func (w waters) rise(m Model, cell, dir int, speed api.Span) bounds {
	way := across(dir)
	least := m.Drag.Lo * speed.Lo * speed.Lo * way.Lo * w.grid.Size
	most := m.Drag.Hi * speed.Hi * speed.Hi * way.Hi * w.grid.Size
	const weight = gravity * dragUnit / fine
	lower := func(depth bounds) int { return down(least, weight*depth.Hi) }
	upper := func(depth bounds) int { return up(most, weight*max(depth.Lo, 1)) }
	return bounds{api.Span{
		Lo: w.sum(w.fetch(cell, dir, isSeaForSure), lower),
		Hi: w.sum(w.fetch(cell, dir, canBeSea), upper),
	}}
}

// sum adds up what the cells of a fetch give by their depths.
func (w waters) sum(fetch iter.Seq[int], part func(depth bounds) int) int {
	sum := 0
	for cell := range fetch {
		sum += part(w.depth(cell))
	}
	return sum
}
