package quake_test

import (
	"math"
	"math/rand/v2"
	"testing"

	"tidewall/api"
	"tidewall/quake"
)

// The examples of the chapter.
func TestTravelExamples(t *testing.T) {
	m := exampleM()
	for to, want := range map[int]api.Span{0: sp(0, 1415), 1: sp(0, 2237), 4: sp(1500, 5100)} {
		if s, e := quake.Travel(m, 0, to); e != api.OK || s != want {
			t.Error("Travel", to, s, e)
		}
	}
	for to, want := range map[int]api.Span{0: sp(470, 500), 4: sp(440)} {
		if s, e := quake.Strengths(m, 5, 0, to); e != api.OK || s != want {
			t.Error("Strengths", to, s, e)
		}
	}
}

// P4.1: cells that do not exist come before a class that is out of range.
func TestTravelErrors(t *testing.T) {
	m := exampleM()
	for k, cell := range []int{-1, 5, math.MinInt, math.MaxInt} {
		expect(t, k, api.ErrNone, callTravel(m, cell, 0), callTravel(m, 0, cell), callTravel(m, cell, cell))
		expect(t, k, api.ErrNone, callStrengths(m, 5, cell, 0), callStrengths(m, 5, 0, cell), callStrengths(m, 0, cell, 0), callStrengths(m, 11, 0, cell))
	}
	for k, class := range []int{0, -1, 11, math.MinInt, math.MaxInt} {
		expect(t, k, api.ErrRange, callStrengths(m, class, 0, 4))
	}
	expect(t, 0, api.OK, callStrengths(m, 1, 4, 4), callStrengths(m, 10, 4, 4))
}

// root is the greatest integer whose square is at most n.
func root(n int) int {
	r := int(math.Sqrt(float64(n)))
	for r*r > n {
		r--
	}
	for (r+1)*(r+1) <= n {
		r++
	}
	return r
}

func square(n int) int { return n * n }

// distanceByDefinition follows the chapter's words.
func distanceByDefinition(m quake.Model, from, to int) api.Span {
	x, y := from%m.Wide-to%m.Wide, from/m.Wide-to/m.Wide
	if x < 0 {
		x = -x
	}
	if y < 0 {
		y = -y
	}
	lower := square(m.Depth.Lo)
	if x != 0 {
		lower += square((x - 1) * m.Size)
	}
	if y != 0 {
		lower += square((y - 1) * m.Size)
	}
	upper := square((x+1)*m.Size) + square((y+1)*m.Size) + square(m.Depth.Hi)
	up := root(upper)
	if up*up < upper {
		up++
	}
	return sp(root(lower), up)
}

func travelByDefinition(m quake.Model, from, to int) api.Span {
	d := distanceByDefinition(m, from, to)
	up := 1000 * d.Hi / m.Speed.Lo
	if up*m.Speed.Lo < 1000*d.Hi {
		up++
	}
	return sp(1000*d.Lo/m.Speed.Hi, up)
}

func fallByDefinition(d int) int {
	k := 0
	for 1<<(k+1) <= d/1000+1 {
		k++
	}
	return 30 * k
}

func strengthsByDefinition(m quake.Model, class, from, to int) api.Span {
	d := distanceByDefinition(m, from, to)
	return sp(100*class-fallByDefinition(d.Hi)-m.Spread, 100*class-fallByDefinition(d.Lo)+m.Spread)
}

// randomModel has up to most columns and rows, and often a scale on which waves come soon.
func randomModel(r *rand.Rand, most int) quake.Model {
	m := quake.Model{Wide: 1 + r.IntN(most), High: 1 + r.IntN(most), Size: 1 + r.IntN(20), Speed: within(r, sp(200, 2000)), Depth: within(r, sp(0, 20)), Spread: r.IntN(20)}
	if r.IntN(2) == 0 {
		m.Size, m.Speed, m.Depth, m.Spread = 1+r.IntN(10000), within(r, sp(100, 20000)), within(r, sp(0, []int{1, 20000, 700000}[r.IntN(3)])), r.IntN(1001)
	}
	return m
}

func randomCell(r *rand.Rand, m quake.Model) int { return r.IntN(m.Wide * m.High) }

// P4.1: travel times and strengths by definition, of all pairs of cells of some models, and of some pairs of many.
func TestTravelByDefinition(t *testing.T) {
	r := dice(1)
	check := func(m quake.Model, from, to int) {
		class := 1 + r.IntN(10)
		travel, e := quake.Travel(m, from, to)
		if e != api.OK || travel != travelByDefinition(m, from, to) || travel.Lo > travel.Hi {
			t.Error("Travel", m, from, to, travel, e)
		}
		strength, e := quake.Strengths(m, class, from, to)
		if e != api.OK || strength != strengthsByDefinition(m, class, from, to) || strength.Lo > strength.Hi {
			t.Error("Strengths", m, class, from, to, strength, e)
		}
	}
	for range 100 {
		m := randomModel(r, 5)
		for from := range m.Wide * m.High {
			for to := range m.Wide * m.High {
				check(m, from, to)
			}
		}
	}
	for range 20000 {
		m := randomModel(r, 24)
		check(m, randomCell(r, m), randomCell(r, m))
	}
}

// P4.1: the fall grows where a distance in kilometres, and one, comes to a power of 2: there, and a metre before it.
func TestFallSteps(t *testing.T) {
	for k := 1; k < 10; k++ {
		edge := 1000 * (1<<k - 1)
		for d := edge - 2; d <= edge+1; d++ {
			m := quake.Model{Wide: 1, High: 1, Size: 1, Speed: sp(1000), Depth: sp(d)}
			s, e := quake.Strengths(m, 10, 0, 0)
			// The cell itself makes the upper bound of the distance greater by a metre.
			want := sp(1000-30*k, 1000-30*k)
			if d < edge {
				want.Hi += 30
			}
			if d+1 < edge {
				want.Lo += 30
			}
			if e != api.OK || s != want {
				t.Error(k, d, s, want, e)
			}
		}
	}
}

// P4.11: neither from where to where waves go, nor in which direction, matters.
func TestDirectionDoesNotMatter(t *testing.T) {
	r := dice(2)
	for k := range 3000 {
		m := randomModel(r, 24)
		from, to := randomCell(r, m), randomCell(r, m)
		mirror := func(cell int) int { return cell/m.Wide*m.Wide + m.Wide - 1 - cell%m.Wide }
		flip := func(cell int) int { return (m.High-1-cell/m.Wide)*m.Wide + cell%m.Wide }
		turned := m
		turned.Wide, turned.High = m.High, m.Wide
		turn := func(cell int) int { return cell%m.Wide*m.High + cell/m.Wide }
		travel, _ := quake.Travel(m, from, to)
		strength, _ := quake.Strengths(m, 7, from, to)
		for j, x := range []struct {
			m        quake.Model
			from, to int
		}{{m, to, from}, {m, mirror(from), mirror(to)}, {m, flip(from), flip(to)}, {turned, turn(from), turn(to)}} {
			a, e := quake.Travel(x.m, x.from, x.to)
			b, e2 := quake.Strengths(x.m, 7, x.from, x.to)
			if e != api.OK || e2 != api.OK || a != travel || b != strength {
				t.Error(k, j, m, from, to, a, travel, b, strength)
			}
		}
	}
}

func narrowerModel(r *rand.Rand, m quake.Model) quake.Model {
	m.Speed, m.Depth, m.Spread = within(r, m.Speed), within(r, m.Depth), r.IntN(m.Spread+1)
	return m
}

// P4.11, G1: with a model that is known better, travel times and strengths lie within the others'.
func TestTravelKnownBetter(t *testing.T) {
	r := dice(3)
	for k := range 5000 {
		m := randomModel(r, 24)
		n := narrowerModel(r, m)
		from, to, class := randomCell(r, m), randomCell(r, m), 1+r.IntN(10)
		a, _ := quake.Travel(m, from, to)
		if b, e := quake.Travel(n, from, to); e != api.OK || !spanIn(b, a) || b.Lo > b.Hi {
			t.Error("Travel", k, a, b, e)
		}
		a, _ = quake.Strengths(m, class, from, to)
		if b, e := quake.Strengths(n, class, from, to); e != api.OK || !spanIn(b, a) || b.Lo > b.Hi {
			t.Error("Strengths", k, a, b, e)
		}
	}
}
