package surge

import (
	"tidewall/api"
	"tidewall/grid"
)

// Blow returns the wind of a storm at a cell.
func Blow(g api.Grid, s Storm, cell int) (Wind, api.Errno) {
	if e := grid.Check(g); e != api.OK {
		return Wind{}, e
	}
	if e := checkStorm(s); e != api.OK {
		return Wind{}, e
	}
	if e := checkCell(g, cell); e != api.OK {
		return Wind{}, e
	}
	east := exactly(cell % g.Wide * g.Size).minus(bounds{s.X})
	north := exactly(cell / g.Wide * g.Size).minus(bounds{s.Y})
	far := distances(east, north)
	// Storms turn to the left: what lies in their east is blown to the north, and what lies in their north to the west.
	return Wind{Speed: speeds(s, far).Span, Dirs: directionsOf(north.negative(), east), Low: lows(s, far)}, api.OK
}

// Directions returns the set of the directions that vectors can have.
func Directions(p, q api.Span) (int, api.Errno) {
	if !isSpanWithin(p, -4*MaxFar, 4*MaxFar) || !isSpanWithin(q, -4*MaxFar, 4*MaxFar) {
		return 0, api.ErrRange
	}
	return directionsOf(bounds{p}, bounds{q}), api.OK
}

func distances(u, v bounds) bounds {
	return bounds{api.Span{
		Lo: rootDown(u.nearest()*u.nearest() + v.nearest()*v.nearest()),
		Hi: rootUp(u.farthest()*u.farthest() + v.farthest()*v.farthest()),
	}}
}

// speeds returns the speeds of a storm at some distances. They grow up to its radius, and become less behind it: so the least one is at an end.
func speeds(s Storm, far bounds) bounds {
	least := min(speedAt(s, s.Most.Lo, far.Lo, down), speedAt(s, s.Most.Lo, far.Hi, down))
	most := s.Most.Hi
	if !far.has(s.Radius) {
		most = max(speedAt(s, s.Most.Hi, far.Lo, up), speedAt(s, s.Most.Hi, far.Hi, up))
	}
	return bounds{api.Span{Lo: least, Hi: most}}
}

// speedAt returns the speed at one distance, if the greatest one is most.
func speedAt(s Storm, most, distance int, quotient func(n, divisor int) int) int {
	if distance <= s.Radius {
		return quotient(most*distance, s.Radius)
	}
	return quotient(most*s.Radius, distance)
}

// lows returns how low the pressure of a storm is at some distances. Outside its radius nothing is known but that it is not lower than in the eye.
func lows(s Storm, far bounds) api.Span {
	if far.Hi > s.Radius {
		return api.Span{Lo: 0, Hi: s.Low.Hi}
	}
	return s.Low
}

// directionsOf turns the vectors to the right, by a quarter of a turn each time, and asks for the first two directions.
func directionsOf(p, q bounds) int {
	if p.has(0) && q.has(0) {
		return allDirections
	}
	set := 0
	for dir := 0; dir < len(directions); dir += 2 {
		if canGoStraight(p, q) {
			set |= 1 << dir
		}
		if canGoAslant(p, q) {
			set |= 2 << dir
		}
		p, q = q, p.negative()
	}
	return set
}

// canGoStraight says whether vectors can have the direction 0. The cosine and the sine of where it ends are nearly as 12 to 5.
func canGoStraight(p, q bounds) bool {
	return p.Hi > 0 && 12*q.nearest() <= 5*p.Hi
}

// canGoAslant says whether vectors can have the direction 1.
func canGoAslant(p, q bounds) bool {
	return p.Hi > 0 && q.Hi > 0 && 12*q.Hi >= 5*max(p.Lo, 1) && 12*p.Hi >= 5*max(q.Lo, 1)
}
