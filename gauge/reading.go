package gauge

import (
	"slices"

	"tidewall/api"
	"tidewall/tide"
)

// meaning is a reading as it is meant: what it says of true times and levels, for all clocks, datums and drifts of its gauge.
type meaning struct {
	Reading
	by    Gauge
	outer api.Span
	inner api.Span // not valid if it is empty
	truth api.Span // the true level
	tide  api.Span // in the outer time
}

// Shown returns the outer time and the true level of a reading.
func Shown(s Site, r Reading) (time, level api.Span, e api.Errno) {
	if e := Check(s); e != api.OK {
		return api.Span{}, api.Span{}, e
	}
	m, e := meaningOf(s, r)
	if e != api.OK {
		return api.Span{}, api.Span{}, e
	}
	return m.outer, m.truth, api.OK
}

// meaningOf takes a valid site, and returns the error of a reading.
func meaningOf(s Site, r Reading) (meaning, api.Errno) {
	if !within(r.Kind, Height, Calm) {
		return meaning{}, api.ErrArg
	}
	if !within(r.Gauge, 0, len(s.Gauges)-1) {
		return meaning{}, api.ErrNone
	}
	if !isSpanWithin(r.Time, -MaxClock, api.MaxTime+MaxClock) || !isSpanWithin(r.Level, -api.MaxLevel, api.MaxLevel) {
		return meaning{}, api.ErrRange
	}
	g := s.Gauges[r.Gauge]
	outer := plus(r.Time, g.Clock)
	if !isSpanWithin(outer, 0, api.MaxTime) {
		return meaning{}, api.ErrRange
	}
	level, _ := tide.Level(s.Tide, outer)
	return meaning{
		Reading: r,
		by:      g,
		outer:   outer,
		inner:   api.Span{Lo: r.Time.Lo + g.Clock.Hi, Hi: r.Time.Hi + g.Clock.Lo},
		truth:   plus(plus(r.Level, g.Datum), g.drifts(outer)),
		tide:    level,
	}, api.OK
}

// drifts returns by how much the datum of a gauge can have drifted at some times, in whole centimetres.
func (g Gauge) drifts(time api.Span) api.Span {
	first, last := time.Lo-g.Since, time.Hi-g.Since
	products := []int{g.Drift.Lo * first, g.Drift.Lo * last, g.Drift.Hi * first, g.Drift.Hi * last}
	return api.Span{Lo: down(slices.Min(products), Day), Hi: up(slices.Max(products), Day)}
}

// plus returns the span of the sums of what is in two spans.
func plus(a, b api.Span) api.Span {
	return api.Span{Lo: a.Lo + b.Lo, Hi: a.Hi + b.Hi}
}

// down rounds down also where a quotient in Go is rounded toward zero.
func down(n, divisor int) int {
	quotient := n / divisor
	if n%divisor < 0 {
		quotient--
	}
	return quotient
}

func up(n, divisor int) int {
	return -down(-n, divisor)
}
