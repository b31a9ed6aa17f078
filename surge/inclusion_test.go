package surge_test

import (
	"math/rand/v2"
	"slices"
	"testing"

	"tidewall/api"
	"tidewall/surge"
)

func windIn(a, b surge.Wind) bool {
	return spanIn(a.Speed, b.Speed) && a.Dirs&^b.Dirs == 0 && spanIn(a.Low, b.Low)
}

// The functions that follow return what is known better than their argument.

func narrowerGrid(r *rand.Rand, g api.Grid) api.Grid {
	g.Ground = slices.Clone(g.Ground)
	for cell, s := range g.Ground {
		g.Ground[cell] = within(r, s)
	}
	return g
}

func narrowerModel(r *rand.Rand, m surge.Model) surge.Model {
	return surge.Model{Drag: within(r, m.Drag), Lag: within(r, m.Lag)}
}

func narrowerWind(r *rand.Rand, w surge.Wind) surge.Wind {
	dirs := w.Dirs & r.IntN(256)
	if dirs == 0 {
		dirs = w.Dirs
	}
	return surge.Wind{Speed: within(r, w.Speed), Dirs: dirs, Low: within(r, w.Low)}
}

func narrowerWinds(r *rand.Rand, l []surge.Wind) []surge.Wind {
	var n []surge.Wind
	for _, w := range l {
		n = append(n, narrowerWind(r, w))
	}
	return n
}

func narrowerStorm(r *rand.Rand, s surge.Storm) surge.Storm {
	return surge.Storm{X: within(r, s.X), Y: within(r, s.Y), Radius: s.Radius, Most: within(r, s.Most), Low: within(r, s.Low)}
}

// P3.7, G1: the fetches, setups, steady levels and runs of what is known better lie within those of what was known.
func TestWhatIsKnownBetter(t *testing.T) {
	r := dice(30)
	for k := range 3000 {
		g, sea, m, start, l := randomGrid(r, 7), randomSea(r), randomModel(r), randomStart(r), randomWinds(r, 1+r.IntN(4))
		cell, dir := r.IntN(len(g.Ground)), r.IntN(8)
		h, tide, n, from, fewer := narrowerGrid(r, g), within(r, sea), narrowerModel(r, m), within(r, start), narrowerWinds(r, l)

		sure, may, _ := surge.Fetch(g, sea, cell, dir)
		surer, less, e := surge.Fetch(h, tide, cell, dir)
		if e != api.OK || len(sure) > len(surer) || len(surer) > len(less) || len(less) > len(may) {
			t.Error("Fetch", k, sure, surer, less, may, e)
		}
		a, _ := surge.Setup(g, sea, m, cell, dir, l[0].Speed)
		if b, e := surge.Setup(h, tide, n, cell, dir, fewer[0].Speed); e != api.OK || !spanIn(b, a) || b.Lo > b.Hi {
			t.Error("Setup", k, a, b, e)
		}
		a, _ = surge.Steady(g, sea, m, cell, l[0])
		if b, e := surge.Steady(h, tide, n, cell, fewer[0]); e != api.OK || !spanIn(b, a) || b.Lo > b.Hi {
			t.Error("Steady", k, a, b, e)
		}
		levels, _ := surge.Run(g, sea, m, cell, start, l)
		better, e := surge.Run(h, tide, n, cell, from, fewer)
		if e != api.OK || len(levels) != len(l) || len(better) != len(l) {
			t.Fatal("Run", k, levels, better, e)
		}
		for i := range levels {
			if !spanIn(better[i], levels[i]) || better[i].Lo > better[i].Hi {
				t.Error("Run", k, i, levels, better)
			}
		}
	}
}

// P3.7, G1: fields, with winds of storms that are known better.
func TestFieldsKnownBetter(t *testing.T) {
	r := dice(31)
	for k := range 200 {
		g, sea, m, start := randomGrid(r, 6), randomSea(r), randomModel(r), randomStart(r)
		h, tide, n, from := narrowerGrid(r, g), within(r, sea), narrowerModel(r, m), within(r, start)
		var all, fewer [][]surge.Wind
		for range 1 + r.IntN(4) {
			s := randomStorm(r)
			eye := narrowerStorm(r, s)
			var winds, better []surge.Wind
			for cell := range g.Ground {
				a, _ := surge.Blow(g, s, cell)
				b, e := surge.Blow(h, eye, cell)
				if e != api.OK || !windIn(b, a) {
					t.Error("Blow", k, s, eye, a, b, e)
				}
				winds, better = append(winds, a), append(better, b)
			}
			all, fewer = append(all, winds), append(fewer, better)
		}
		levels, _ := surge.Field(g, sea, m, start, all)
		better, e := surge.Field(h, tide, n, from, fewer)
		if e != api.OK || len(levels) != len(g.Ground) || len(better) != len(g.Ground) {
			t.Fatal("Field", k, levels, better, e)
		}
		for cell := range levels {
			if !spanIn(better[cell], levels[cell]) || better[cell].Lo > better[cell].Hi {
				t.Error("Field", k, cell, levels[cell], better[cell])
			}
		}
	}
}

// P3.7: winds of storms, and directions.
func TestStormsKnownBetter(t *testing.T) {
	r := dice(32)
	for k := range 5000 {
		g, s := gridOfSize(r), randomStorm(r)
		cell := r.IntN(len(g.Ground))
		a, _ := surge.Blow(g, s, cell)
		if b, e := surge.Blow(g, narrowerStorm(r, s), cell); e != api.OK || !windIn(b, a) {
			t.Error("Blow", k, a, b, e)
		}
		most := []int{30, 4 * surge.MaxFar}[k%2]
		p, q := within(r, sp(-most, most)), within(r, sp(-most, most))
		set, _ := surge.Directions(p, q)
		if fewer, e := surge.Directions(within(r, p), within(r, q)); e != api.OK || fewer == 0 || fewer&^set != 0 {
			t.Error("Directions", k, p, q, set, fewer, e)
		}
	}
}
