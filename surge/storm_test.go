package surge_test

import (
	"math/big"
	"math/rand/v2"
	"testing"

	"tidewall/api"
	"tidewall/surge"
)

// directionsOfVector are the directions of a single vector: a straight one if it goes along it, and at most 5/12 of that across; one aslant if of its two coordinates neither is less than 5/12 of the other one.
func directionsOfVector(p, q int) int {
	set := 0
	for dir, step := range steps() {
		x, y := p*step[0], q*step[1]
		switch {
		case step[1] == 0 && x > 0 && 12*max(q, -q) <= 5*x:
			set |= 1 << dir
		case step[0] == 0 && y > 0 && 12*max(p, -p) <= 5*y:
			set |= 1 << dir
		case step[0] != 0 && step[1] != 0 && x > 0 && y > 0 && 12*x >= 5*y && 12*y >= 5*x:
			set |= 1 << dir
		}
	}
	return set
}

func nearest(s api.Span) int {
	n := max(s.Lo, -s.Lo)
	if s.Lo <= 0 && s.Hi >= 0 {
		n = 0
	}
	return min(n, max(s.Hi, -s.Hi))
}

func farthest(s api.Span) int { return max(s.Lo, -s.Lo, s.Hi, -s.Hi) }

func minus(s api.Span) api.Span { return sp(-s.Hi, -s.Lo) }

// directionsOf is the set of the directions of spans, by the rule of the chapter.
func directionsOf(p, q api.Span) int {
	straight := func(p, q api.Span) bool { return p.Hi > 0 && 12*nearest(q) <= 5*p.Hi }
	aslant := func(p, q api.Span) bool {
		return p.Hi > 0 && q.Hi > 0 && 12*q.Hi >= 5*max(1, p.Lo) && 12*p.Hi >= 5*max(1, q.Lo)
	}
	set := 0
	for dir, has := range []bool{
		straight(p, q), aslant(p, q), straight(q, p), aslant(minus(p), q), straight(minus(p), q), aslant(minus(p), minus(q)), straight(minus(q), p), aslant(p, minus(q)),
	} {
		if has || nearest(p) == 0 && nearest(q) == 0 {
			set |= 1 << dir
		}
	}
	return set
}

// half is the set of the opposite directions.
func half(set int) int { return set>>4 | set&15<<4 }

// P3.6: small spans have the directions of the vectors in them.
func TestDirectionsOfAllVectors(t *testing.T) {
	r := dice(20)
	for k := range 6000 {
		most := []int{3, 15, 60}[k%3]
		p, q := within(r, sp(-most, most)), within(r, sp(-most, most))
		want := 0
		for x := p.Lo; x <= p.Hi; x++ {
			for y := q.Lo; y <= q.Hi; y++ {
				want |= directionsOfVector(x, y)
			}
		}
		if nearest(p) == 0 && nearest(q) == 0 {
			want = 255
		}
		if set, e := surge.Directions(p, q); e != api.OK || set != want {
			t.Errorf("%v %v: %b %v, not %b", p, q, set, e, want)
		}
	}
}

// P3.6: greater spans, by the rule.
func TestDirections(t *testing.T) {
	r := dice(21)
	for range 20000 {
		most := []int{100, 5000, 4 * surge.MaxFar}[r.IntN(3)]
		p, q := within(r, sp(-most, most)), within(r, sp(-most, most))
		if set, e := surge.Directions(p, q); e != api.OK || set != directionsOf(p, q) {
			t.Errorf("%v %v: %b %v, not %b", p, q, set, e, directionsOf(p, q))
		}
	}
}

// P3.11: a vector other than (0, 0) has one or two directions; the opposite vector has the opposite ones.
func TestDirectionsOfVectors(t *testing.T) {
	r := dice(22)
	ones, twos := 0, 0
	for k := range 20000 {
		most := []int{13, 100, 4 * surge.MaxFar}[k%3]
		p, q := r.IntN(2*most+1)-most, r.IntN(2*most+1)-most
		if k%5 == 0 {
			p, q = 12*(p%100), 5*(p%100)
		}
		if p == 0 && q == 0 {
			continue
		}
		set, e := surge.Directions(sp(p), sp(q))
		if e != api.OK || set != directionsOfVector(p, q) {
			t.Errorf("%d %d: %b %v", p, q, set, e)
		}
		back, _ := surge.Directions(sp(-p), sp(-q))
		if back != half(set) {
			t.Errorf("%d %d: %b and %b", p, q, set, back)
		}
		count := 0
		for dir := range 8 {
			count += set >> dir & 1
		}
		switch count {
		case 1:
			ones++
		case 2:
			twos++
		default:
			t.Errorf("%d %d: %b", p, q, set)
		}
	}
	if ones < 1000 || twos < 1000 {
		t.Error("not vectors of both sorts", ones, twos)
	}
}

// The examples of the chapter, and vectors at the limits between directions.
func TestDirectionExamples(t *testing.T) {
	far := 4 * surge.MaxFar
	for k, x := range []struct {
		p, q api.Span
		set  int
	}{
		{sp(5), sp(2), 1}, {sp(12), sp(5), 3}, {sp(-1, 1), sp(2), 14}, {sp(-1, 1), sp(-1, 1), 255},
		{sp(0), sp(0), 255}, {sp(0, far), sp(-far, 0), 255}, {sp(-far, far), sp(-far, far), 255},
		{sp(1), sp(0), 1}, {sp(1), sp(1), 2}, {sp(0), sp(1), 4}, {sp(-1), sp(1), 8}, {sp(-1), sp(0), 16}, {sp(-1), sp(-1), 32}, {sp(0), sp(-1), 64}, {sp(1), sp(-1), 128},
		{sp(5), sp(12), 6}, {sp(-5), sp(12), 12}, {sp(-12), sp(5), 24}, {sp(-12), sp(-5), 48}, {sp(-5), sp(-12), 96}, {sp(5), sp(-12), 192}, {sp(12), sp(-5), 129},
		{sp(12), sp(4), 1}, {sp(12), sp(6), 2}, {sp(11), sp(5), 2}, {sp(13), sp(5), 1},
		{sp(far), sp(-far), 128}, {sp(-far), sp(-far, far), 56}, {sp(1), sp(-far, far), 64 + 128 + 1 + 2 + 4}, {sp(0, 1), sp(3), 4}, {sp(1, 2), sp(3), 6},
	} {
		if set, e := surge.Directions(x.p, x.q); e != api.OK || set != x.set {
			t.Errorf("%d: %b %v", k, set, e)
		}
	}
}

// P3.6: the spans of Directions.
func TestDirectionErrors(t *testing.T) {
	for k, bad := range badSpans(-4000000, 4000000) {
		for _, fair := range []api.Span{sp(0), sp(4000000), sp(-4000000, 4000000)} {
			if set, e := surge.Directions(bad, fair); e != api.ErrRange || set != 0 {
				t.Error(k, set, e)
			}
			if set, e := surge.Directions(fair, bad); e != api.ErrRange || set != 0 {
				t.Error(k, set, e)
			}
		}
	}
}

func sumOfSquares(a, b int) *big.Int {
	x, y := big.NewInt(int64(a)), big.NewInt(int64(b))
	return x.Add(x.Mul(x, x), y.Mul(y, y))
}

// distances are the spans of the differences and of the distance of a cell from the eye, by their definition.
func distances(g api.Grid, s surge.Storm, cell int) (u, v, far api.Span) {
	x, y := cell%g.Wide*g.Size, cell/g.Wide*g.Size
	u, v = sp(x-s.X.Hi, x-s.X.Lo), sp(y-s.Y.Hi, y-s.Y.Lo)
	least, most := sumOfSquares(nearest(u), nearest(v)), sumOfSquares(farthest(u), farthest(v))
	low, high := new(big.Int).Sqrt(least), new(big.Int).Sqrt(most)
	if new(big.Int).Mul(high, high).Cmp(most) < 0 {
		high.Add(high, big.NewInt(1))
	}
	return u, v, sp(int(low.Int64()), int(high.Int64()))
}

// windOf is the wind of a storm, by its definition.
func windOf(g api.Grid, s surge.Storm, cell int) surge.Wind {
	u, v, far := distances(g, s, cell)
	speed := func(most, q int, up bool) int {
		if q <= s.Radius {
			return rounded(s.Radius, up, most, q)
		}
		return rounded(q, up, most, s.Radius)
	}
	w := surge.Wind{Dirs: directionsOf(minus(v), u), Low: s.Low}
	w.Speed.Lo = min(speed(s.Most.Lo, far.Lo, false), speed(s.Most.Lo, far.Hi, false))
	w.Speed.Hi = max(speed(s.Most.Hi, far.Lo, true), speed(s.Most.Hi, far.Hi, true))
	if far.Lo <= s.Radius && s.Radius <= far.Hi {
		w.Speed.Hi = s.Most.Hi
	}
	if far.Hi > s.Radius {
		w.Low.Lo = 0
	}
	return w
}

// gridOfSize has cells near the eyes of random storms, and far from them.
func gridOfSize(r *rand.Rand) api.Grid {
	g := randomGrid(r, 24)
	g.Size = 1 + r.IntN([]int{5, 500, api.MaxSize}[r.IntN(3)])
	return g
}

// P3.6: Blow, by its definition; its wind is valid.
func TestBlow(t *testing.T) {
	r := dice(23)
	inside, outside, across := 0, 0, 0
	for k := range 5000 {
		g, s := gridOfSize(r), randomStorm(r)
		cell := r.IntN(len(g.Ground))
		w, e := surge.Blow(g, s, cell)
		if e != api.OK || w != windOf(g, s, cell) || surge.CheckWind(w) != api.OK {
			t.Error(k, g.Size, g.Wide, s, cell, w, e, windOf(g, s, cell))
		}
		switch _, _, far := distances(g, s, cell); {
		case far.Hi < s.Radius:
			inside++
		case far.Lo > s.Radius:
			outside++
		default:
			across++
		}
	}
	if inside < 300 || outside < 300 || across < 300 {
		t.Error("not storms of all sorts", inside, outside, across)
	}
}

// The examples of the chapter, and what is at the eye and at the radius.
func TestBlowExamples(t *testing.T) {
	storm := func(x, y api.Span) surge.Storm {
		s := exampleStorm()
		s.X, s.Y = x, y
		return s
	}
	wider := func(radius int, most, low api.Span) surge.Storm {
		return surge.Storm{X: sp(-100, 100), Y: sp(-3000), Radius: radius, Most: most, Low: low}
	}
	for k, x := range []struct {
		s    surge.Storm
		cell int
		want surge.Wind
	}{
		{exampleStorm(), 0, surge.Wind{Speed: sp(2666, 2667), Dirs: 16, Low: sp(0, 5000)}},
		{storm(sp(-1000, 1000), sp(-3000)), 0, surge.Wind{Speed: sp(2529, 2667), Dirs: 16, Low: sp(0, 5000)}},
		{storm(sp(0), sp(-1000)), 0, surge.Wind{Speed: sp(2000), Dirs: 16, Low: sp(5000)}},
		{storm(sp(0), sp(-2000)), 0, surge.Wind{Speed: sp(4000), Dirs: 16, Low: sp(5000)}},
		{storm(sp(0), sp(-2001)), 0, surge.Wind{Speed: sp(3998, 3999), Dirs: 16, Low: sp(0, 5000)}},
		{storm(sp(0), sp(-1999)), 0, surge.Wind{Speed: sp(3998), Dirs: 16, Low: sp(5000)}},
		// turning to the left: in the east to the north, in the west to the south, in the south to the east
		{storm(sp(0), sp(0)), 2, surge.Wind{Speed: sp(4000), Dirs: 4, Low: sp(5000)}},
		{storm(sp(5000), sp(0)), 3, surge.Wind{Speed: sp(4000), Dirs: 64, Low: sp(5000)}},
		{storm(sp(0), sp(2000)), 0, surge.Wind{Speed: sp(4000), Dirs: 1, Low: sp(5000)}},
		{storm(sp(1000), sp(-1000)), 2, surge.Wind{Speed: sp(2828, 2830), Dirs: 8, Low: sp(5000)}},
		// in the eye, which is just there or can be there
		{storm(sp(1000), sp(0)), 1, surge.Wind{Speed: sp(0), Dirs: 255, Low: sp(5000)}},
		{storm(sp(0, 1000), sp(0)), 1, surge.Wind{Speed: sp(0, 2000), Dirs: 255, Low: sp(5000)}},
		{storm(sp(0, 1000), sp(1, 9)), 1, surge.Wind{Speed: sp(2, 2002), Dirs: 1 + 2 + 4, Low: sp(5000)}},
		{wider(3001, sp(100, 200), sp(10, 20)), 0, surge.Wind{Speed: sp(99, 200), Dirs: 16, Low: sp(0, 20)}},
		{wider(3002, sp(100, 200), sp(10, 20)), 0, surge.Wind{Speed: sp(99, 200), Dirs: 16, Low: sp(10, 20)}},
		{wider(3003, sp(100, 200), sp(0)), 0, surge.Wind{Speed: sp(99, 200), Dirs: 16, Low: sp(0)}},
		{wider(1, sp(0, 10000), sp(20000)), 0, surge.Wind{Speed: sp(0, 4), Dirs: 16, Low: sp(0, 20000)}},
	} {
		if w, e := surge.Blow(exampleG(), x.s, x.cell); e != api.OK || w != x.want {
			t.Error(k, w, e)
		}
	}
}

// P3.6: roots are rounded outward: a distance of 5 is just that, and one between 5 and 6 can be both.
func TestDistanceIsRounded(t *testing.T) {
	g := exampleG()
	for k, x := range []struct {
		x, y, radius int
		low          api.Span
		speed        api.Span
	}{
		{3, 4, 5, sp(700), sp(1000)}, {3, 4, 4, sp(0, 700), sp(800)}, {3, 5, 5, sp(0, 700), sp(833, 1000)}, {3, 5, 6, sp(700), sp(833, 1000)}, {3, 5, 10, sp(700), sp(500, 600)},
		{1000000, 1000000, 1, sp(0, 700), sp(0, 1)}, {1000000, 1000000, 1000000, sp(0, 700), sp(707, 708)},
	} {
		s := surge.Storm{X: sp(x.x), Y: sp(x.y), Radius: x.radius, Most: sp(1000), Low: sp(700)}
		if w, e := surge.Blow(g, s, 0); e != api.OK || w.Low != x.low || w.Speed != x.speed {
			t.Error(k, w, e)
		}
	}
}

// P3.6: the errors of Blow, and their order; the greatest storms are valid.
func TestBlowErrors(t *testing.T) {
	for k, s := range badStorms() {
		for _, cell := range []int{0, -1, 4} {
			if w, e := surge.Blow(exampleG(), s, cell); e != api.ErrRange || w != (surge.Wind{}) {
				t.Error(k, s, w, e)
			}
		}
	}
	for _, cell := range []int{-1, 4, -1 << 63, 1<<63 - 1} {
		if w, e := surge.Blow(exampleG(), exampleStorm(), cell); e != api.ErrNone || w != (surge.Wind{}) {
			t.Error(cell, w, e)
		}
	}
	g := square(24, api.MaxSize, sp(0))
	for k, s := range []surge.Storm{
		{X: sp(-1000000), Y: sp(-1000000), Radius: 1, Most: sp(10000), Low: sp(20000)},
		{X: sp(1000000), Y: sp(1000000), Radius: 1000000, Most: sp(0), Low: sp(0)},
		{X: sp(-1000000, 1000000), Y: sp(-1000000, 1000000), Radius: 1000000, Most: sp(0, 10000), Low: sp(0, 20000)},
	} {
		for _, cell := range []int{0, 23, 552, 575} {
			if w, e := surge.Blow(g, s, cell); e != api.OK || w != windOf(g, s, cell) {
				t.Error(k, cell, w, e, windOf(g, s, cell))
			}
		}
	}
}

// P3.11, G1: wherever the eye is, the wind of the storm with the eye there is within the wind of the storm.
func TestEveryEye(t *testing.T) {
	r := dice(24)
	for k := range 300 {
		g, s := gridOfSize(r), randomStorm(r)
		g.Size = 1 + r.IntN(10)
		x, y := r.IntN(200)-100, r.IntN(200)-100
		s.X, s.Y = sp(x, x+r.IntN(12)), sp(y, y+r.IntN(12))
		s.Radius = 1 + r.IntN(200)
		cell := r.IntN(len(g.Ground))
		w, _ := surge.Blow(g, s, cell)
		one := s
		for x := s.X.Lo; x <= s.X.Hi; x++ {
			for y := s.Y.Lo; y <= s.Y.Hi; y++ {
				one.X, one.Y = sp(x), sp(y)
				if eye, e := surge.Blow(g, one, cell); e != api.OK || !windIn(eye, w) {
					t.Fatal(k, s, x, y, eye, w, e)
				}
			}
		}
	}
}
