package surge

import (
	"iter"
	"slices"

	"tidewall/api"
)

// direction is how the column and the row change on the way to the next cell.
type direction struct {
	x int
	y int
}

// directions go against the clock, so that the opposite of one is found halfway round.
var directions = [8]direction{{1, 0}, {1, 1}, {0, 1}, {-1, 1}, {-1, 0}, {-1, -1}, {0, -1}, {1, -1}}

const allDirections = 1<<8 - 1

// waters are a sea on some ground.
type waters struct {
	grid api.Grid
	sea  bounds
}

// Fetch returns the cells over which wind from a direction blows on its way to a cell: those that are sea for sure, and those that may be.
func Fetch(g api.Grid, sea api.Span, cell, dir int) (sure, may []int, e api.Errno) {
	if e := checkSea(g, sea); e != api.OK {
		return nil, nil, e
	}
	if e := checkCell(g, cell); e != api.OK {
		return nil, nil, e
	}
	if !isDirection(dir) {
		return nil, nil, api.ErrRange
	}
	w := waters{g, bounds{sea}}
	return slices.Collect(w.fetch(cell, dir, isSeaForSure)), slices.Collect(w.fetch(cell, dir, canBeSea)), api.OK
}

// fetch yields the cells that follow a cell in a direction, as long as they are sea.
func (w waters) fetch(cell, dir int, isSea func(depth bounds) bool) iter.Seq[int] {
	wide, high, step := w.grid.Wide, w.grid.High, directions[dir]
	return func(yield func(int) bool) {
		x, y := cell%wide+step.x, cell/wide+step.y
		for within(x, 0, wide-1) && within(y, 0, high-1) {
			next := y*wide + x
			if !isSea(w.depth(next)) || !yield(next) {
				return
			}
			x += step.x
			y += step.y
		}
	}
}

func (w waters) depth(cell int) bounds {
	return w.sea.minus(bounds{w.grid.Ground[cell]})
}

func isSeaForSure(depth bounds) bool {
	return depth.Lo >= 1
}

func canBeSea(depth bounds) bool {
	return depth.Hi >= 1
}

func isDirection(dir int) bool {
	return within(dir, 0, len(directions)-1)
}

func opposite(dir int) int {
	return (dir + len(directions)/2) % len(directions)
}

// across returns how many centimetres it is from one cell to the next, for each metre of their size.
func across(dir int) bounds {
	if dir%2 == 0 {
		return exactly(100)
	}
	return bounds{api.Span{Lo: 141, Hi: 142}}
}
