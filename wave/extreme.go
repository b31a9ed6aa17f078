package wave

import (
	"cmp"
	"iter"
	"slices"

	"tidewall/api"
)

// noSurface is below all surfaces, and below all ground, also less a loss.
const noSurface = -api.Never

// extreme is what is known of the cells, at the end from which the most water follows, or at the one from which the least does.
type extreme struct {
	side           // of what there is more of with more water
	less      side // of what there is less of with more water: the height of the ground, the times, and what is lost
	neighbors [][]int
	places    []place
	level     int // of the sea
	keep      int // of a strength, from cell to cell
	size      int // of a cell, in metres
	delay     int // from cell to cell on land
	loss      int // from cell to cell on land
}

// place is what is known of a cell at an extreme.
type place struct {
	isSea  bool // whether it can be sea, for the most water, or is sea for sure, for the least
	isLand bool // likewise
	ground int  // what a surface has to exceed there
	dry    int  // the top without water
	depth  int  // in which waves begin, and which they cross
	under  int  // the depth under waves that stand there
	begin  int  // the fourth root of depth
	stand  int  // the fourth root of under
}

func placesOf(ground []api.Span, sea api.Span, more, less side) []place {
	var places []place
	for _, s := range ground {
		depth := depthOf(sea, s)
		p := place{
			isSea:  more.end(depth) >= 1,
			isLand: less.end(depth) <= 0,
			ground: less.end(s),
			dry:    more.end(s),
		}
		if p.isSea {
			p.depth = more.end(depth)
			p.under = max(1, less.end(depth))
			p.begin = more.fourthRoot(p.depth)
			p.stand = less.fourthRoot(p.under)
		}
		places = append(places, p)
	}
	return places
}

// effect is what water does in a cell at an extreme.
type effect struct {
	arrive int
	rise   int
	top    int
	flow   int
}

// effects returns what water does in each cell.
func (x extreme) effects(l []Start) []effect {
	arrivals, rises := x.seaArrivals(l), x.seaRises(l)
	surfaces := x.surfaces(arrivals, rises)
	arrivals = x.arrivals(arrivals, surfaces)
	var all []effect
	for cell, p := range x.places {
		f := effect{arrive: arrivals[cell], top: p.dry}
		if p.isSea {
			f.rise = rises[cell]
			f.top = max(f.top, x.level+f.rise)
			f.flow = x.flowInSea(f.rise, p.under)
		}
		surface := x.landSurface(cell, surfaces)
		if surface != noSurface {
			rise := surface - p.ground
			f.rise = max(f.rise, rise)
			f.top = max(f.top, surface)
			f.flow = max(f.flow, x.flowOnLand(rise))
		}
		all = append(all, f)
	}
	return all
}

// seaArrivals returns when the wave comes to the cells through the sea.
func (x extreme) seaArrivals(l []Start) []int {
	first := slices.Repeat([]int{api.Never}, len(x.places))
	for _, s := range l {
		if x.places[s.Cell].isSea {
			first[s.Cell] = min(first[s.Cell], x.less.end(s.Time))
		}
	}
	cross := func(from, to, time int) int {
		if !x.places[to].isSea {
			return api.Never
		}
		return time + x.less.crossing(x.size, min(x.places[from].depth, x.places[to].depth))
	}
	return best(first, api.Never, cmp.Less[int], x.near, cross)
}

// seaRises returns how high the wave stands in the cells that are sea, 0 where it does not come.
func (x extreme) seaRises(l []Start) []int {
	first := make([]int, len(x.places))
	for _, s := range l {
		if p := x.places[s.Cell]; p.isSea {
			first[s.Cell] = max(first[s.Cell], x.end(s.Rise)*p.begin)
		}
	}
	weaken := func(_, to, strength int) int {
		if !x.places[to].isSea {
			return 0
		}
		return x.quotient(strength*x.keep, wholeKeep)
	}
	rises := best(first, 0, isMore, x.near, weaken)
	for cell, p := range x.places {
		if p.isSea {
			rises[cell] = x.quotient(rises[cell], p.stand)
		}
	}
	return rises
}

// surfaces returns how high water stands in the cells to which it comes, through the sea or over land.
func (x extreme) surfaces(seaArrivals, seaRises []int) []int {
	first := slices.Repeat([]int{noSurface}, len(x.places))
	for cell, time := range seaArrivals {
		if time != api.Never {
			first[cell] = x.level + seaRises[cell]
		}
	}
	overflow := func(_, to, surface int) int { return x.overflow(surface, to) }
	return best(first, noSurface, isMore, x.near, overflow)
}

// overflow returns the surface of the water that comes from a neighbor with a surface over a cell of the land.
func (x extreme) overflow(surface, cell int) int {
	surface -= x.loss
	if !x.places[cell].isLand || surface <= x.places[cell].ground {
		return noSurface
	}
	return surface
}

// landSurface returns the surface of a cell on land. That of the cell is higher where this can also be sea, and the wave stands higher in it.
func (x extreme) landSurface(cell int, surfaces []int) int {
	greatest := noSurface
	for from := range x.near(cell) {
		greatest = max(greatest, x.overflow(surfaces[from], cell))
	}
	return greatest
}

// arrivals returns when water comes to the cells, through the sea or over land.
func (x extreme) arrivals(seaArrivals, surfaces []int) []int {
	run := func(from, to, time int) int {
		if x.overflow(surfaces[from], to) == noSurface {
			return api.Never
		}
		return time + x.delay
	}
	return best(seaArrivals, api.Never, cmp.Less[int], x.near, run)
}

// near yields the neighbors of a cell.
func (x extreme) near(cell int) iter.Seq[int] {
	return slices.Values(x.neighbors[cell])
}

func isMore(a, b int) bool {
	return a > b
}
