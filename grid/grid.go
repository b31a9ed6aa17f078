// Package grid is layer 1: ground known within bounds, and what the sea floods of it.
package grid

import (
	"iter"
	"slices"

	"tidewall/api"
)

// The limits.
const (
	MaxSoundings = 4096
	MaxError     = 100000
)

// Sounding is a measured height of the ground of a cell, with its greatest error.
type Sounding struct {
	Cell   int
	Height int
	Error  int
}

// Check checks a grid.
func Check(g api.Grid) api.Errno {
	if !within(g.Wide, 1, api.MaxSide) || !within(g.High, 1, api.MaxSide) || !within(g.Size, 1, api.MaxSize) {
		return api.ErrRange
	}
	if len(g.Ground) != g.Wide*g.High {
		return api.ErrShape
	}
	for _, s := range g.Ground {
		if !isSpanWithin(s, api.MaxGround) {
			return api.ErrRange
		}
	}
	return api.OK
}

// Near returns the neighbors of a cell, from the eastern one on against the clock.
func Near(g api.Grid, cell int) ([]int, api.Errno) {
	if e := Check(g); e != api.OK {
		return nil, e
	}
	if !hasCell(g, cell) {
		return nil, api.ErrNone
	}
	return slices.Collect(neighbors(g, cell)), api.OK
}

// neighbors yields the neighbors of a cell of a valid grid in their stated order, on which results depend.
func neighbors(g api.Grid, cell int) iter.Seq[int] {
	x, y := cell%g.Wide, cell/g.Wide
	return func(yield func(int) bool) {
		if x+1 < g.Wide && !yield(cell+1) {
			return
		}
		if y+1 < g.High && !yield(cell+g.Wide) {
			return
		}
		if x > 0 && !yield(cell-1) {
			return
		}
		if y > 0 {
			yield(cell - g.Wide)
		}
	}
}

func hasCell(g api.Grid, cell int) bool {
	return within(cell, 0, len(g.Ground)-1)
}

func within(n, least, greatest int) bool {
	return n >= least && n <= greatest
}

// isSpanWithin says whether a span is valid, with ends of at most the limit in absolute value.
func isSpanWithin(s api.Span, limit int) bool {
	return s.Lo <= s.Hi && s.Lo >= -limit && s.Hi <= limit
}
