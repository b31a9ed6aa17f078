package wave

import (
	"tidewall/api"
	"tidewall/grid"
)

// Starts returns how the wave of a source begins.
func Starts(g api.Grid, s api.Source) ([]Start, api.Errno) {
	if e := grid.Check(g); e != api.OK {
		return nil, e
	}
	if e := checkSource(g, s); e != api.OK {
		return nil, e
	}
	return starts(g, s), api.OK
}

func checkSource(g api.Grid, s api.Source) api.Errno {
	if s.Kind != api.Quake && s.Kind != api.Slide && s.Kind != api.Volcano {
		return api.ErrArg
	}
	if !hasCell(g, s.Cell) {
		return api.ErrNone
	}
	if !within(s.Class, 1, api.MaxClass) || !isTime(s.Time) {
		return api.ErrRange
	}
	return api.OK
}

// starts takes a source without an error.
func starts(g api.Grid, s api.Source) []Start {
	x, y, far, rise := s.Cell%g.Wide, s.Cell/g.Wide, reachOf(s), riseOf(s)
	var l []Start
	for row := max(0, y-far); row <= min(y+far, g.High-1); row++ {
		for column := max(0, x-far); column <= min(x+far, g.Wide-1); column++ {
			l = append(l, Start{Cell: row*g.Wide + column, Time: s.Time, Rise: rise})
		}
	}
	return l
}

// reachOf returns how many cells away from its own one the wave of a source begins at most.
func reachOf(s api.Source) int {
	switch s.Kind {
	case api.Quake:
		return s.Class / 4
	case api.Volcano:
		return 1
	}
	return 0
}

func riseOf(s api.Source) api.Span {
	power := 1 << s.Class
	if s.Kind == api.Slide {
		return api.Span{Lo: power, Hi: 2 * power}
	}
	return api.Span{Lo: power / 2, Hi: power}
}
