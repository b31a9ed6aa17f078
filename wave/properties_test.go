package wave_test

import (
	"math/rand/v2"
	"slices"
	"testing"

	"tidewall/api"
	"tidewall/wave"
)

// The functions that follow return what is known better than their argument.

func narrowerGrid(r *rand.Rand, g api.Grid) api.Grid {
	g.Ground = slices.Clone(g.Ground)
	for cell, s := range g.Ground {
		g.Ground[cell] = within(r, s)
	}
	return g
}

func narrowerModel(r *rand.Rand, m wave.Model) wave.Model {
	return wave.Model{Keep: within(r, m.Keep), Land: within(r, m.Land), Loss: within(r, m.Loss)}
}

func narrowerStarts(r *rand.Rand, l []wave.Start) []wave.Start {
	var n []wave.Start
	for _, s := range l {
		n = append(n, start(s.Cell, within(r, s.Time), within(r, s.Rise)))
	}
	return n
}

func narrowerSources(r *rand.Rand, l []api.Source) []api.Source {
	var n []api.Source
	for _, s := range l {
		s.Time = within(r, s.Time)
		n = append(n, s)
	}
	return n
}

// P5.6, G1: the bounds of what is known better lie within those of what was known: whatever of it is known better, and all of it.
func TestSpreadKnownBetter(t *testing.T) {
	r := dice(30)
	narrower := 0
	for k := range 2000 {
		x := randomEvent(r, 6)
		bounds := spread(t, x.g, x.sea, x.m, x.l...)
		g, sea, m, l := narrowerGrid(r, x.g), within(r, x.sea), narrowerModel(r, x.m), narrowerStarts(r, x.l)
		for i, better := range [][]wave.Bound{
			spread(t, g, x.sea, x.m, x.l...),
			spread(t, x.g, sea, x.m, x.l...),
			spread(t, x.g, x.sea, m, x.l...),
			spread(t, x.g, x.sea, x.m, l...),
			spread(t, g, sea, m, l...),
		} {
			for c, b := range better {
				if !boundIn(b, bounds[c]) || !isValid(b) {
					t.Fatal(k, i, x, g, sea, m, l, c, b, bounds[c])
				}
				if b != bounds[c] {
					narrower++
				}
			}
		}
	}
	if narrower < 10000 {
		t.Error("few cases:", narrower)
	}
}

// P5.6, G1: the bounds of fewer sources, whose times are known better, lie within those of all, and so do those of what else is known better.
func TestFewerSources(t *testing.T) {
	r := dice(31)
	narrower := 0
	for k := range 500 {
		x := randomEvent(r, 6)
		sources := randomSources(r, x.g, 1+r.IntN(6))
		all, e := wave.Wave(x.g, x.sea, x.m, sources)
		if e != api.OK {
			t.Fatal(k, e)
		}
		r.Shuffle(len(sources), func(i, j int) { sources[i], sources[j] = sources[j], sources[i] })
		fewer := sources[:1+r.IntN(len(sources))]
		better := narrowerSources(r, fewer)
		a, _ := wave.Wave(x.g, x.sea, x.m, fewer)
		b, _ := wave.Wave(x.g, x.sea, x.m, better)
		c, e := wave.Wave(narrowerGrid(r, x.g), within(r, x.sea), narrowerModel(r, x.m), better)
		if e != api.OK || len(a) != len(all) || len(b) != len(all) || len(c) != len(all) {
			t.Fatal(k, len(a), len(b), len(c), e)
		}
		for cell := range all {
			if !boundIn(a[cell], all[cell]) || !boundIn(b[cell], a[cell]) || !boundIn(c[cell], b[cell]) {
				t.Error(k, x, cell, all[cell], a[cell], b[cell], c[cell])
			}
			if a[cell] != all[cell] && c[cell] != a[cell] {
				narrower++
			}
		}
	}
	if narrower < 500 {
		t.Error("few cases:", narrower)
	}
}

// firstArrival is what P5.7 says of a cell of the sea: the least one of the starts at it, and of its neighbors with their crossing times.
func (x event) firstArrival(bounds []wave.Bound, c int) api.Span {
	first := never()
	for _, s := range x.l {
		if s.Cell == c {
			first = sp(min(first.Lo, s.Time.Lo), min(first.Hi, s.Time.Hi))
		}
	}
	for n, b := range bounds {
		if !x.areNeighbors(c, n) || !x.canBeSea(n) {
			continue
		}
		if b.Arrive.Lo != api.Never {
			first.Lo = min(first.Lo, b.Arrive.Lo+x.lowerCrossing(c, n))
		}
		if b.Arrive.Hi != api.Never {
			first.Hi = min(first.Hi, b.Arrive.Hi+x.upperCrossing(c, n))
		}
	}
	return first
}

// P5.7: where no cell is open, arrivals in the sea come from those of the neighbors.
func TestFirstArrivals(t *testing.T) {
	r := dice(32)
	reached, unreached := 0, 0
	for k := range 2000 {
		x := randomEvent(r, 6)
		for c, s := range x.g.Ground {
			if x.canBeSea(c) && x.canBeLand(c) {
				x.g.Ground[c] = []api.Span{sp(min(s.Lo, x.sea.Lo-1), x.sea.Lo-1), sp(x.sea.Hi, max(s.Hi, x.sea.Hi))}[r.IntN(2)]
			}
		}
		bounds := spread(t, x.g, x.sea, x.m, x.l...)
		for c, b := range bounds {
			if !x.seaForSure(c) {
				continue
			}
			if want := x.firstArrival(bounds, c); b.Arrive != want {
				t.Error(k, x, c, b, want)
			}
			if b.Arrive == never() {
				unreached++
			} else {
				reached++
			}
		}
	}
	if min(reached, unreached) < 2000 {
		t.Error("few cases:", reached, unreached)
	}
}

// P5.9: no upper rise in the sea is greater than the greatest strength at a start over the fourth root of the depth 1. (Rise of an open cell can be greater, as land.)
func TestStrengthDoesNotGrow(t *testing.T) {
	r := dice(33)
	count := 0
	for k := range 2000 {
		x := randomEvent(r, 6)
		most := 0
		for _, s := range x.l {
			if x.canBeSea(s.Cell) {
				most = max(most, s.Rise.Hi*fourth(true, x.depth(s.Cell).Hi))
			}
		}
		limit := number(ratio(true, fourth(false, 1), most))
		for c, b := range spread(t, x.g, x.sea, x.m, x.l...) {
			if !x.seaForSure(c) {
				continue
			}
			if b.Rise.Hi > limit {
				t.Error(k, x, c, b, limit)
			}
			if b.Rise.Hi > 0 {
				count++
			}
		}
	}
	if count < 2000 {
		t.Error("few cases:", count)
	}
}

// P5.9: where all is kept of waves, and the depth is the same all over, so are the rises, but for the roundings.
func TestRiseInEvenSea(t *testing.T) {
	r := dice(34)
	for k := range 2000 {
		depth := 1 + r.IntN([]int{1, 20, 2000, api.MaxGround}[r.IntN(4)])
		g := flat(1+r.IntN(6), 1+r.IntN(6), 1+r.IntN(api.MaxSize), sp(-depth))
		l := append(randomStarts(r, g), start(r.IntN(len(g.Ground)), sp(0), within(r, sp(0, wave.MaxRise))))
		var greatest api.Span
		for _, s := range l {
			greatest = sp(max(greatest.Lo, s.Rise.Lo), max(greatest.Hi, s.Rise.Hi))
		}
		most := greatest.Hi + (greatest.Hi+511)/512 + 1
		least := greatest.Lo - (greatest.Lo+511)/512 - 1
		for c, b := range spread(t, g, sp(0), exampleModel(), l...) {
			if b.Rise.Hi > most || b.Rise.Lo < least || b.Rise.Hi < greatest.Hi || b.Rise.Lo > greatest.Lo {
				t.Error(k, depth, l, c, b, least, most)
			}
		}
	}
}
