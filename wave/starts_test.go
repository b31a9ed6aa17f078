package wave_test

import (
	"slices"
	"testing"

	"tidewall/api"
	"tidewall/wave"
)

// startsOf are the starts of a source, by their definition.
func startsOf(g api.Grid, s api.Source) []wave.Start {
	power := 1
	for range s.Class {
		power *= 2
	}
	far, rise := 0, sp(power, 2*power)
	switch s.Kind {
	case api.Quake:
		far, rise = s.Class/4, sp(power/2, power)
	case api.Volcano:
		far, rise = 1, sp(power/2, power)
	}
	var l []wave.Start
	for cell := range g.Ground {
		columns, rows := cell%g.Wide-s.Cell%g.Wide, cell/g.Wide-s.Cell/g.Wide
		if max(columns, -columns, rows, -rows) <= far {
			l = append(l, start(cell, s.Time, rise))
		}
	}
	return l
}

// P5.1: the starts of all kinds and classes, at all cells of some grids.
func TestStartsByDefinition(t *testing.T) {
	for _, g := range []api.Grid{exampleG(), flat(1, 1, 1, sp(0)), flat(1, 6, 1, sp(0)), flat(7, 6, 1, sp(0)), flat(2, 3, 1, sp(0))} {
		for kind := 1; kind <= 3; kind++ {
			for class := 1; class <= api.MaxClass; class++ {
				for cell := range g.Ground {
					s := source(kind, cell, class, sp(3, 1000))
					if l, e := wave.Starts(g, s); e != api.OK || !slices.Equal(l, startsOf(g, s)) {
						t.Error(g.Wide, g.High, s, l, e)
					}
				}
			}
		}
	}
}

// P5.1: starts as they are written.
func TestStarts(t *testing.T) {
	square, time := flat(5, 5, 1, sp(0)), sp(7, 9)
	cells := func(rise api.Span, l ...int) []wave.Start {
		var all []wave.Start
		for _, cell := range l {
			all = append(all, start(cell, time, rise))
		}
		return all
	}
	for k, x := range []struct {
		g    api.Grid
		s    api.Source
		want []wave.Start
	}{
		{square, source(api.Quake, 12, 3, time), cells(sp(4, 8), 12)},
		{square, source(api.Quake, 12, 4, time), cells(sp(8, 16), 6, 7, 8, 11, 12, 13, 16, 17, 18)},
		{square, source(api.Quake, 24, 7, time), cells(sp(64, 128), 18, 19, 23, 24)},
		{square, source(api.Quake, 0, 8, time), cells(sp(128, 256), 0, 1, 2, 5, 6, 7, 10, 11, 12)},
		{square, source(api.Quake, 4, 1, time), cells(sp(1, 2), 4)},
		{square, source(api.Slide, 12, 1, time), cells(sp(2, 4), 12)},
		{square, source(api.Slide, 12, 10, time), cells(sp(1024, 2048), 12)},
		{square, source(api.Volcano, 12, 1, time), cells(sp(1, 2), 6, 7, 8, 11, 12, 13, 16, 17, 18)},
		{square, source(api.Volcano, 5, 10, time), cells(sp(512, 1024), 0, 1, 5, 6, 10, 11)},
		// the end of a row is not beside the beginning of the next one
		{square, source(api.Volcano, 9, 2, time), cells(sp(2, 4), 3, 4, 8, 9, 13, 14)},
		{exampleG(), source(api.Slide, 0, 7, time), cells(sp(128, 256), 0)},
		{exampleG(), source(api.Quake, 3, 4, time), cells(sp(8, 16), 2, 3)},
	} {
		if l, e := wave.Starts(x.g, x.s); e != api.OK || !slices.Equal(l, x.want) {
			t.Error(k, l, e)
		}
	}
	most, e := wave.Starts(square, source(api.Quake, 12, 10, time))
	if e != api.OK || len(most) != 25 || most[0] != start(0, time, sp(512, 1024)) || most[24] != start(24, time, sp(512, 1024)) {
		t.Error(most, e)
	}
}
