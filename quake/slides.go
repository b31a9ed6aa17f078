package quake

import "tidewall/api"

// Slides returns sources with what is left of the slides, if quakes of the same sources set them off.
func Slides(m Model, l []api.Source, lag int) ([]api.Source, api.Errno) {
	if e := CheckSources(m, l); e != api.OK {
		return nil, e
	}
	if !within(lag, 0, MaxLag) {
		return nil, api.ErrRange
	}
	var left []api.Source
	for _, x := range l {
		if x.Kind == api.Slide {
			x.Time = common(x.Time, setOff(m, l, x.Cell, lag))
		}
		if x.Time.Lo <= x.Time.Hi {
			left = append(left, x)
		}
	}
	return left, api.OK
}

// setOff returns when the quakes of some sources can set off a slide in a cell. It is not valid if there is no quake.
func setOff(m Model, l []api.Source, cell, lag int) api.Span {
	times := api.Span{Lo: api.Never, Hi: 0}
	for _, x := range l {
		if x.Kind == api.Quake {
			travel := m.travel(m.distance(x.Cell, cell))
			times.Lo = min(times.Lo, x.Time.Lo+travel.Lo)
			times.Hi = max(times.Hi, x.Time.Hi+travel.Hi+lag)
		}
	}
	return times
}
