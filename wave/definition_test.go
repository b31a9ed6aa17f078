package wave_test

import (
	"math/big"
	"math/rand/v2"
	"testing"

	"tidewall/api"
	"tidewall/wave"
)

// ratio is the product of some factors by a divisor, rounded down or up.
func ratio(up bool, divisor int, factors ...int) *big.Int {
	n := big.NewInt(1)
	for _, factor := range factors {
		n.Mul(n, big.NewInt(int64(factor)))
	}
	q, rest := new(big.Int).DivMod(n, big.NewInt(int64(divisor)), new(big.Int))
	if up && rest.Sign() > 0 {
		q.Add(q, big.NewInt(1))
	}
	return q
}

func number(n *big.Int) int { return int(n.Int64()) }

func root(up bool, n *big.Int) *big.Int {
	root := new(big.Int).Sqrt(n)
	if up && new(big.Int).Mul(root, root).Cmp(n) < 0 {
		root.Add(root, big.NewInt(1))
	}
	return root
}

// fourth is r of a depth, or R, if it is rounded up.
func fourth(up bool, depth int) int {
	return number(root(up, root(up, ratio(false, 1, depth, 1<<40))))
}

// event is all that a call of Spread is given.
type event struct {
	g   api.Grid
	sea api.Span
	m   wave.Model
	l   []wave.Start
}

func randomEvent(r *rand.Rand, most int) event {
	g := randomGrid(r, most)
	return event{g, randomSea(r), randomModel(r), randomStarts(r, g)}
}

func (x event) depth(c int) api.Span {
	return sp(x.sea.Lo-x.g.Ground[c].Hi, x.sea.Hi-x.g.Ground[c].Lo)
}

func (x event) seaForSure(c int) bool  { return x.depth(c).Lo >= 1 }
func (x event) landForSure(c int) bool { return x.depth(c).Hi <= 0 }
func (x event) canBeSea(c int) bool    { return !x.landForSure(c) }
func (x event) canBeLand(c int) bool   { return !x.seaForSure(c) }

func (x event) areNeighbors(a, b int) bool {
	columns, rows := a%x.g.Wide-b%x.g.Wide, a/x.g.Wide-b/x.g.Wide
	return columns*columns+rows*rows == 1
}

// pairs are all pairs of neighbors, in both orders.
func (x event) pairs() [][2]int {
	var l [][2]int
	for a := range x.g.Ground {
		for b := range x.g.Ground {
			if x.areNeighbors(a, b) {
				l = append(l, [2]int{a, b})
			}
		}
	}
	return l
}

// lowerCrossing and upperCrossing are item 1 of the definitions.

func (x event) lowerCrossing(a, b int) int {
	return number(root(false, ratio(false, 981*min(x.depth(a).Hi, x.depth(b).Hi), x.g.Size, x.g.Size, 10000000000)))
}

func (x event) upperCrossing(a, b int) int {
	return number(root(true, ratio(true, 981*min(x.depth(a).Lo, x.depth(b).Lo), x.g.Size, x.g.Size, 10000000000)))
}

// known is what the definitions say of a cell, step by step. Those of what there is not are Never, or none.
type known struct {
	sea, arrive     api.Span
	strength, rise  api.Span
	upper, lower    int // surfaces
	land            int // upper surface on land
	isUpper, isLand bool
	isLower         bool
}

// until repeats a change until nothing changes.
func until(change func() bool) {
	for change() {
	}
}

// lower makes a number less, if it is not, and says whether it has.
func lower(n *int, to int) bool {
	if to >= *n {
		return false
	}
	*n = to
	return true
}

func raise(n *int, to int) bool {
	if to <= *n {
		return false
	}
	*n = to
	return true
}

// inTheSea is item 2 of the definitions.
func (x event) inTheSea(cells []known) {
	for c := range cells {
		cells[c].sea = never()
		cells[c].strength = sp(0)
	}
	for _, s := range x.l {
		k, depth := &cells[s.Cell], x.depth(s.Cell)
		if x.canBeSea(s.Cell) {
			lower(&k.sea.Lo, s.Time.Lo)
			raise(&k.strength.Hi, s.Rise.Hi*fourth(true, depth.Hi))
		}
		if x.seaForSure(s.Cell) {
			lower(&k.sea.Hi, s.Time.Hi)
			raise(&k.strength.Lo, s.Rise.Lo*fourth(false, depth.Lo))
		}
	}
	pairs := x.pairs()
	until(func() bool {
		again := false
		for _, p := range pairs {
			a, b := &cells[p[0]], &cells[p[1]]
			if x.canBeSea(p[0]) && x.canBeSea(p[1]) && a.sea.Lo != api.Never {
				again = lower(&b.sea.Lo, a.sea.Lo+x.lowerCrossing(p[0], p[1])) || again
				again = raise(&b.strength.Hi, number(ratio(true, 1024, a.strength.Hi, x.m.Keep.Hi))) || again
			}
			if x.seaForSure(p[0]) && x.seaForSure(p[1]) && a.sea.Hi != api.Never {
				again = lower(&b.sea.Hi, a.sea.Hi+x.upperCrossing(p[0], p[1])) || again
				again = raise(&b.strength.Lo, number(ratio(false, 1024, a.strength.Lo, x.m.Keep.Lo))) || again
			}
		}
		return again
	})
	for c := range cells {
		k, depth := &cells[c], x.depth(c)
		if x.seaForSure(c) {
			k.rise.Lo = number(ratio(false, fourth(true, depth.Hi), k.strength.Lo))
		}
		if x.canBeSea(c) {
			k.rise.Hi = number(ratio(true, fourth(false, max(depth.Lo, 1)), k.strength.Hi))
		}
	}
}

// aboveLand is item 3 of the definitions.
func (x event) aboveLand(cells []known) {
	for c := range cells {
		k := &cells[c]
		k.arrive.Lo = k.sea.Lo
		if x.canBeSea(c) && k.sea.Lo != api.Never {
			k.isUpper, k.upper = true, x.sea.Hi+k.rise.Hi
		}
	}
	pairs := x.pairs()
	until(func() bool {
		again := false
		for _, p := range pairs {
			a, b := &cells[p[0]], &cells[p[1]]
			surface := a.upper - x.m.Loss.Lo
			if !a.isUpper || !x.canBeLand(p[1]) || surface <= x.g.Ground[p[1]].Lo {
				continue
			}
			if !b.isLand || surface > b.land {
				b.isLand, b.land, again = true, surface, true
			}
			if !b.isUpper || surface > b.upper {
				b.isUpper, b.upper, again = true, surface, true
			}
			again = lower(&b.arrive.Lo, a.arrive.Lo+x.m.Land.Lo*x.g.Size) || again
		}
		return again
	})
}

// belowLand is item 4 of the definitions.
func (x event) belowLand(cells []known) {
	for c := range cells {
		k := &cells[c]
		k.arrive.Hi = k.sea.Hi
		if x.seaForSure(c) && k.sea.Hi != api.Never {
			k.isLower, k.lower = true, x.sea.Lo+k.rise.Lo
		}
	}
	pairs := x.pairs()
	until(func() bool {
		again := false
		for _, p := range pairs {
			a, b := &cells[p[0]], &cells[p[1]]
			surface := a.lower - x.m.Loss.Hi
			if !a.isLower || !x.landForSure(p[1]) || surface <= x.g.Ground[p[1]].Hi {
				continue
			}
			if !b.isLower || surface > b.lower {
				b.isLower, b.lower, again = true, surface, true
			}
			again = lower(&b.arrive.Hi, a.arrive.Hi+x.m.Land.Hi*x.g.Size) || again
		}
		return again
	})
}

// bound is a bound as the definitions list it.
func (x event) bound(c int, k known) wave.Bound {
	b, ground, depth := wave.Bound{Arrive: k.arrive}, x.g.Ground[c], x.depth(c)
	b.Top = sp(ground.Lo, -api.Never)
	switch {
	case x.seaForSure(c):
		b.Rise.Lo = k.rise.Lo
		b.Top.Lo = x.sea.Lo + k.rise.Lo
		b.Flow.Lo = number(root(false, ratio(false, depth.Hi, k.rise.Lo, k.rise.Lo, 981)))
	case x.landForSure(c) && k.isLower:
		b.Rise.Lo = k.lower - ground.Hi
		b.Top.Lo = k.lower
		b.Flow.Lo = number(root(false, ratio(false, 1, 981, b.Rise.Lo)))
	}
	if x.canBeSea(c) {
		b.Rise.Hi = k.rise.Hi
		b.Top.Hi = x.sea.Hi + k.rise.Hi
		b.Flow.Hi = number(root(true, ratio(true, max(1, depth.Lo), k.rise.Hi, k.rise.Hi, 981)))
	}
	if x.canBeLand(c) {
		raise(&b.Top.Hi, ground.Hi)
	}
	if k.isLand {
		raise(&b.Rise.Hi, k.land-ground.Lo)
		raise(&b.Top.Hi, k.land)
		raise(&b.Flow.Hi, number(root(true, ratio(false, 1, 981, k.land-ground.Lo))))
	}
	return b
}

// bounds are those of all cells, by their definition.
func (x event) bounds() []wave.Bound {
	cells := make([]known, len(x.g.Ground))
	x.inTheSea(cells)
	x.aboveLand(cells)
	x.belowLand(cells)
	var l []wave.Bound
	for c, k := range cells {
		l = append(l, x.bound(c, k))
	}
	return l
}

// P5.2: Spread, by its definition.
func TestSpreadByDefinition(t *testing.T) {
	r := dice(10)
	var open, overflown, sure, far int
	for k := range 4000 {
		x := randomEvent(r, 6)
		got, want := spread(t, x.g, x.sea, x.m, x.l...), x.bounds()
		for c := range want {
			if got[c] != want[c] || !isValid(got[c]) {
				t.Fatal(k, x, c, got[c], want[c])
			}
			if x.canBeSea(c) && x.canBeLand(c) && want[c].Arrive.Lo != api.Never {
				open++
			}
			if x.landForSure(c) && want[c].Arrive.Lo != api.Never {
				overflown++
			}
			if x.landForSure(c) && want[c].Arrive.Hi != api.Never {
				sure++
			}
			if x.seaForSure(c) && want[c].Rise.Lo > 0 {
				far++
			}
		}
	}
	if min(open, overflown, sure, far) < 800 {
		t.Error("few cases:", open, overflown, sure, far)
	}
}

// P5.3: One has the bounds for the starts, and Wave, for each cell, the least spans that have those of One for all sources.
func TestOneAndWaveByDefinition(t *testing.T) {
	r := dice(11)
	for k := range 500 {
		x := randomEvent(r, 5)
		sources := randomSources(r, x.g, r.IntN(6))
		var want []wave.Bound
		for _, s := range sources {
			x.l = startsOf(x.g, s)
			bounds := x.bounds()
			one, e := wave.One(x.g, x.sea, x.m, s)
			if e != api.OK || len(one) != len(bounds) {
				t.Fatal("One", k, len(one), e)
			}
			for c, b := range bounds {
				if one[c] != b {
					t.Error("One", k, x, c, one[c], b)
				}
				if len(want) < len(bounds) {
					want = append(want, b)
				}
				want[c] = hull(want[c], b)
			}
		}
		if len(sources) == 0 {
			x.l = nil
			want = x.bounds()
		}
		all, e := wave.Wave(x.g, x.sea, x.m, sources)
		if e != api.OK || len(all) != len(want) {
			t.Fatal("Wave", k, len(all), e)
		}
		for c := range want {
			if all[c] != want[c] {
				t.Error("Wave", k, x, c, all[c], want[c])
			}
		}
	}
}

// hull has what either of two bounds has.
func hull(a, b wave.Bound) wave.Bound {
	both := func(a, b api.Span) api.Span { return sp(min(a.Lo, b.Lo), max(a.Hi, b.Hi)) }
	return wave.Bound{Arrive: both(a.Arrive, b.Arrive), Rise: both(a.Rise, b.Rise), Top: both(a.Top, b.Top), Flow: both(a.Flow, b.Flow)}
}

// P5.4: Dry, by its definition, of the bounds of some waves and of other ones.
func TestDryByDefinition(t *testing.T) {
	r := dice(12)
	count := map[bool]int{}
	for k := range 2000 {
		x := randomEvent(r, 6)
		bounds := spread(t, x.g, x.sea, x.m, x.l...)
		for c := range bounds {
			if r.IntN(4) == 0 {
				bounds[c].Rise = sp(r.IntN(5) - 2)
			}
		}
		dry, e := wave.Dry(x.g, x.sea, bounds)
		if e != api.OK || len(dry) != len(bounds) {
			t.Fatal(k, len(dry), e)
		}
		for c, b := range bounds {
			if dry[c] != (x.landForSure(c) && b.Rise.Hi <= 0) {
				t.Error(k, x, c, b, dry[c])
			}
			if x.landForSure(c) {
				count[dry[c]]++
			}
		}
	}
	if min(count[false], count[true]) < 1000 {
		t.Error("few cases:", count)
	}
}
