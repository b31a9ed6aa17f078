package surge

import (
	"slices"

	"tidewall/api"
)

// Run returns the levels of a cell behind each of some winds that follow one another, in fine levels.
func Run(g api.Grid, sea api.Span, m Model, cell int, start api.Span, l []Wind) ([]api.Span, api.Errno) {
	if e := checkPlace(g, sea, m, cell); e != api.OK {
		return nil, e
	}
	if e := checkRun(start, len(l)); e != api.OK {
		return nil, e
	}
	if e := checkWinds(l); e != api.OK {
		return nil, e
	}
	w := waters{g, bounds{sea}}
	level := bounds{start}
	var levels []api.Span
	for _, wind := range l {
		level = nextLevel(m.Lag, level, w.steady(m, cell, wind))
		levels = append(levels, level.Span)
	}
	return levels, api.OK
}

// Field returns the levels of all cells behind some winds that follow one another, each of which has a wind of its own for each cell.
func Field(g api.Grid, sea api.Span, m Model, start api.Span, l [][]Wind) ([]api.Span, api.Errno) {
	if e := checkGround(g, sea, m); e != api.OK {
		return nil, e
	}
	if e := checkRun(start, len(l)); e != api.OK {
		return nil, e
	}
	for _, winds := range l {
		if len(winds) != len(g.Ground) {
			return nil, api.ErrRange
		}
		if e := checkWinds(winds); e != api.OK {
			return nil, e
		}
	}
	w := waters{g, bounds{sea}}
	levels := slices.Repeat([]api.Span{start}, len(g.Ground))
	for _, winds := range l {
		for cell, wind := range winds {
			levels[cell] = nextLevel(m.Lag, bounds{levels[cell]}, w.steady(m, cell, wind)).Span
		}
	}
	return levels, api.OK
}

// Centimetres returns a span of fine levels in centimetres.
func Centimetres(s api.Span) (api.Span, api.Errno) {
	if s.Lo > s.Hi {
		return api.Span{}, api.ErrRange
	}
	return api.Span{Lo: down(s.Lo, fine), Hi: up(s.Hi, fine)}, api.OK
}

// Exceeds returns when levels may, and must, be above one for the first time, -1 for never.
func Exceeds(l []api.Span, level int) (may, must int, e api.Errno) {
	if slices.ContainsFunc(l, func(s api.Span) bool { return s.Lo > s.Hi }) {
		return 0, 0, api.ErrRange
	}
	may = slices.IndexFunc(l, func(s api.Span) bool { return s.Hi > level })
	must = slices.IndexFunc(l, func(s api.Span) bool { return s.Lo > level })
	return may, must, api.OK
}

func checkRun(start api.Span, winds int) api.Errno {
	if !isSpanWithin(start, -MaxFine, MaxFine) {
		return api.ErrRange
	}
	if winds > MaxWinds {
		return api.ErrMany
	}
	return api.OK
}

// nextLevel brings a level nearer to the steady one: its lower end rises as slowly, and falls as fast, as it can, and its upper end the other way.
func nextLevel(lag api.Span, level, steady bounds) bounds {
	lower, upper := lag.Lo, lag.Hi
	if steady.Lo < level.Lo {
		lower = lag.Hi
	}
	if steady.Hi < level.Hi {
		upper = lag.Lo
	}
	return bounds{api.Span{
		Lo: level.Lo + down(lower*(steady.Lo-level.Lo), wholeLag),
		Hi: level.Hi + up(upper*(steady.Hi-level.Hi), wholeLag),
	}}
}
