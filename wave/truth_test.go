package wave_test

import (
	"math"
	"math/rand/v2"
	"testing"

	"tidewall/api"
	"tidewall/wave"
)

// truth is what is so: heights, a level, how waves begin, and what happens on each way from a cell to a neighbor.
type truth struct {
	size   float64
	level  int
	height []int
	starts []trueStart
	ways   [][2]int
	keep   []float64 // by ways, as are land and loss
	land   []float64
	loss   []float64
}

type trueStart struct {
	cell       int
	time, rise float64
}

// happening is what happens in a cell in truth.
type happening struct {
	arrive, strength, surface, rise, top, flow float64
	isReached                                  bool
}

func between(r *rand.Rand, s api.Span) float64 {
	switch r.IntN(4) {
	case 0:
		return float64(s.Lo)
	case 1:
		return float64(s.Hi)
	}
	return float64(s.Lo) + r.Float64()*float64(s.Hi-s.Lo)
}

func integerIn(r *rand.Rand, s api.Span) int { return within(r, s).Lo }

// truthOf is a truth that is possible with all that is known of an event.
func truthOf(r *rand.Rand, x event) truth {
	u := truth{size: float64(x.g.Size), level: integerIn(r, x.sea), ways: x.pairs()}
	for _, s := range x.g.Ground {
		u.height = append(u.height, integerIn(r, s))
	}
	for _, s := range x.l {
		u.starts = append(u.starts, trueStart{s.Cell, between(r, s.Time), between(r, s.Rise)})
	}
	for range u.ways {
		u.keep = append(u.keep, between(r, x.m.Keep)/1024)
		u.land = append(u.land, between(r, x.m.Land))
		u.loss = append(u.loss, between(r, x.m.Loss))
	}
	return u
}

func (u truth) depth(c int) int  { return u.level - u.height[c] }
func (u truth) isSea(c int) bool { return u.depth(c) >= 1 }

func fourthRoot(depth int) float64 { return math.Sqrt(math.Sqrt(float64(depth))) }

// throughTheSea says when the wave comes to the cells of the sea, and how strong.
func (u truth) throughTheSea(cells []happening) {
	reach := func(c int, time, strength float64) bool {
		h := &cells[c]
		if h.isReached && time >= h.arrive && strength <= h.strength {
			return false
		}
		if !h.isReached {
			*h = happening{arrive: time, strength: strength, isReached: true}
		}
		h.arrive, h.strength = min(h.arrive, time), max(h.strength, strength)
		return true
	}
	for _, s := range u.starts {
		if u.isSea(s.cell) {
			reach(s.cell, s.time, s.rise*fourthRoot(u.depth(s.cell)))
		}
	}
	until(func() bool {
		again := false
		for i, w := range u.ways {
			from, to := w[0], w[1]
			if cells[from].isReached && u.isSea(to) {
				crossing := math.Sqrt(u.size * u.size * 1e10 / (981 * float64(min(u.depth(from), u.depth(to)))))
				again = reach(to, cells[from].arrive+crossing, cells[from].strength*u.keep[i]) || again
			}
		}
		return again
	})
	for c := range cells {
		if h := &cells[c]; h.isReached {
			h.rise = h.strength / fourthRoot(u.depth(c))
			h.surface = float64(u.level) + h.rise
		}
	}
}

// overLand says when and how high water comes to the cells of the land.
func (u truth) overLand(cells []happening) {
	until(func() bool {
		again := false
		for i, w := range u.ways {
			from, h := cells[w[0]], &cells[w[1]]
			surface, time := from.surface-u.loss[i], from.arrive+u.size*u.land[i]
			if !from.isReached || u.isSea(w[1]) || surface <= float64(u.height[w[1]]) {
				continue
			}
			if !h.isReached {
				*h = happening{arrive: math.Inf(1), surface: math.Inf(-1), isReached: true}
			}
			if surface > h.surface || time < h.arrive {
				h.surface, h.arrive, again = max(surface, h.surface), min(time, h.arrive), true
			}
		}
		return again
	})
}

func (u truth) happens() []happening {
	cells := make([]happening, len(u.height))
	u.throughTheSea(cells)
	u.overLand(cells)
	for c := range cells {
		h := &cells[c]
		h.top = h.surface
		switch {
		case !h.isReached && u.isSea(c):
			h.arrive, h.top = api.Never, float64(u.level)
		case !h.isReached:
			h.arrive, h.top = api.Never, float64(u.height[c])
		case u.isSea(c):
			h.flow = h.rise * math.Sqrt(981/float64(u.depth(c)))
		default:
			h.rise = h.surface - float64(u.height[c])
			h.flow = math.Sqrt(981 * h.rise)
		}
	}
	return cells
}

// has says whether a number is in a span, but for what is lost of its last places.
func has(s api.Span, n float64) bool {
	little := 1e-12*math.Abs(n) + 1e-9
	return float64(s.Lo) <= n+little && n-little <= float64(s.Hi)
}

// P5.5, G1: whatever happens is within the bounds; and P5.8: nothing happens in dry cells.
func TestTruthIsWithinBounds(t *testing.T) {
	r := dice(20)
	var dry, flooded, reached int
	for k := range 4000 {
		x := randomEvent(r, 6)
		bounds := spread(t, x.g, x.sea, x.m, x.l...)
		isDry, e := wave.Dry(x.g, x.sea, bounds)
		if e != api.OK {
			t.Fatal(k, e)
		}
		for range 5 {
			u := truthOf(r, x)
			for c, h := range u.happens() {
				b := bounds[c]
				if !has(b.Arrive, h.arrive) || !has(b.Rise, h.rise) || !has(b.Top, h.top) || !has(b.Flow, h.flow) {
					t.Fatal(k, x, u, c, b, h)
				}
				switch {
				case isDry[c]:
					dry++
					if h.isReached || h.rise != 0 || u.isSea(c) {
						t.Error(k, x, u, c, h)
					}
				case h.isReached && !u.isSea(c):
					flooded++
				case h.isReached:
					reached++
				}
			}
		}
	}
	if min(dry, flooded, reached) < 2000 {
		t.Error("few cases:", dry, flooded, reached)
	}
}

// P5.5: if all is known, the bounds in the sea are near to what happens: each crossing is rounded, and each rise by two fourth roots.
func TestBoundsAreNear(t *testing.T) {
	r := dice(21)
	for k := range 2000 {
		x := randomEvent(r, 5)
		x.g, x.sea, x.m.Keep = points(x.g), sp(x.sea.Lo), sp(1024)
		for i, s := range x.l {
			x.l[i] = start(s.Cell, sp(s.Time.Lo), sp(s.Rise.Lo))
		}
		bounds := spread(t, x.g, x.sea, x.m, x.l...)
		for c, h := range truthOf(r, x).happens() {
			b := bounds[c]
			if x.seaForSure(c) && (b.Arrive.Hi-b.Arrive.Lo > len(bounds) || float64(b.Rise.Hi-b.Rise.Lo) > 2+h.rise/200) {
				t.Error(k, x, c, b, h)
			}
		}
	}
}

// P5.8: what is dry for some sources is dry for each one of them.
func TestDryForEachSource(t *testing.T) {
	r := dice(22)
	count := 0
	for k := range 500 {
		x := randomEvent(r, 6)
		sources := randomSources(r, x.g, 1+r.IntN(5))
		all, _ := wave.Wave(x.g, x.sea, x.m, sources)
		dry, e := wave.Dry(x.g, x.sea, all)
		if e != api.OK {
			t.Fatal(k, e)
		}
		for _, s := range sources {
			one, _ := wave.One(x.g, x.sea, x.m, s)
			each, e := wave.Dry(x.g, x.sea, one)
			if e != api.OK || len(each) != len(dry) {
				t.Fatal(k, len(each), e)
			}
			for c := range dry {
				if dry[c] && !each[c] {
					t.Error(k, x, s, c)
				}
				if dry[c] {
					count++
				}
			}
		}
	}
	if count < 1000 {
		t.Error("few cases:", count)
	}
}
