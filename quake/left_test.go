package quake_test

import (
	"math"
	"math/rand/v2"
	"slices"
	"testing"

	"tidewall/api"
	"tidewall/quake"
)

// The examples of the chapter, and example 4 of DOC.md.
func TestLeftExamples(t *testing.T) {
	first, second := arrive(0, sp(8000)), arrive(1, sp(5000))
	at := func(cell int, time api.Span) api.Source { return source(api.Quake, cell, 5, time) }
	for k, x := range []struct {
		l     []api.Source
		picks []quake.Pick
		f     int
		want  []api.Source
	}{
		{exampleL(), []quake.Pick{first}, 0, []api.Source{at(0, sp(6585, 8000)), at(1, sp(5763, 8000)), at(2, sp(4837, 7500)), at(3, sp(3876, 7000)), at(4, sp(2900, 6500))}},
		{exampleL(), []quake.Pick{first, second}, 0, []api.Source{at(3, sp(3876, 5000)), at(4, sp(3585, 5000))}},
		{exampleL()[2:3], []quake.Pick{first, second}, 1, []api.Source{at(2, sp(1837, 7500))}},
		{exampleL()[4:], []quake.Pick{first, second, strength(0, sp(470, 480))}, 0, nil},
		{exampleL()[:1], []quake.Pick{quiet(0, sp(6000))}, 0, []api.Source{at(0, sp(4586, 10000))}},
		{exampleL(), nil, 0, exampleL()},
		{exampleL(), []quake.Pick{first, second}, 2, exampleL()},
	} {
		if l, e := quake.Left(exampleM(), exampleS(), x.l, x.picks, x.f); e != api.OK || !slices.Equal(l, x.want) {
			t.Error(k, l, e)
		}
	}
}

func TestAgreeExamples(t *testing.T) {
	for k, x := range []struct {
		l     []api.Source
		picks []quake.Pick
		want  int
	}{
		{exampleL(), []quake.Pick{arrive(0, sp(8000)), arrive(1, sp(5000))}, 0},
		{exampleL(), []quake.Pick{arrive(0, sp(8000)), quiet(0, sp(20000))}, 1},
		{exampleL()[:3], []quake.Pick{arrive(0, sp(8000)), arrive(1, sp(5000))}, 1},
		{exampleL(), nil, 0},
		{nil, nil, -1},
		{nil, []quake.Pick{arrive(0, sp(8000))}, -1},
		{[]api.Source{source(api.Slide, 0, 5, sp(0)), source(api.Volcano, 0, 5, sp(0))}, nil, -1},
		{exampleL(), slices.Repeat([]quake.Pick{strength(0, sp(10000))}, 64), 64},
	} {
		if n, e := quake.Agree(exampleM(), exampleS(), x.l, x.picks); e != api.OK || n != x.want {
			t.Error(k, n, e)
		}
	}
}

// Each kind of picks at the edges of what it allows: a quake at its station at the time 5000 exactly, with travel times from 0 to 1415 and the strength 470 to 500, is left, or struck.
func TestEdgesOfPicks(t *testing.T) {
	s := []api.Source{source(api.Quake, 0, 5, sp(5000))}
	for k, x := range []struct {
		p      quake.Pick
		isLeft bool
	}{
		{arrive(0, sp(4999)), false}, {arrive(0, sp(0, 4999)), false}, {arrive(0, sp(5000)), true}, {arrive(0, sp(4999, 5000)), true},
		{arrive(0, sp(6415)), true}, {arrive(0, sp(6415, 9000)), true}, {arrive(0, sp(6416)), false}, {arrive(0, sp(6416, 9000)), false}, {arrive(0, sp(0, 9000)), true},
		{strength(0, sp(469)), false}, {strength(0, sp(-10000, 469)), false}, {strength(0, sp(470)), true}, {strength(0, sp(-10000, 470)), true}, {strength(0, sp(480, 490)), true},
		{strength(0, sp(500)), true}, {strength(0, sp(500, 10000)), true}, {strength(0, sp(501)), false}, {strength(0, sp(501, 10000)), false}, {strength(0, sp(-10000, 10000)), true},
		{quiet(0, sp(0)), true}, {quiet(0, sp(6414)), true}, {quiet(0, sp(6415)), false}, {quiet(0, sp(6414, 1000000000)), true}, {quiet(0, sp(6415, 1000000000)), false},
	} {
		l, e := quake.Left(exampleM(), exampleS(), s, []quake.Pick{x.p}, 0)
		if e != api.OK || slices.Equal(l, s) != x.isLeft || len(l) != sizeOf(!x.isLeft) {
			t.Error(k, x.p, l, e)
		}
	}
}

// Times at which a source is possible can lie apart: what is left has all that lies between them.
func TestLeftSpansGaps(t *testing.T) {
	s := []api.Source{source(api.Quake, 0, 5, sp(0, 100000))}
	picks := []quake.Pick{arrive(0, sp(10000)), arrive(0, sp(50000)), arrive(0, sp(90000))}
	for f, want := range [][]api.Source{nil, nil, {source(api.Quake, 0, 5, sp(8585, 90000))}, s} {
		if l, e := quake.Left(exampleM(), exampleS(), s, picks, f); e != api.OK || !slices.Equal(l, want) {
			t.Error(f, l, e)
		}
	}
}

// Picks strike quakes alone; the other sources stay in their places.
func TestOnlyQuakesAreStruck(t *testing.T) {
	slide, volcano := source(api.Slide, 2, 5, sp(3, 4)), source(api.Volcano, 1, 3, sp(0, 9))
	l := []api.Source{slide, source(api.Quake, 0, 5, sp(0, 10000)), volcano, source(api.Quake, 4, 5, sp(0, 10000)), slide}
	picks := []quake.Pick{arrive(0, sp(8000)), arrive(1, sp(5000)), strength(0, sp(10000))}
	for f, want := range [][]api.Source{{slide, volcano, slide}, {slide, volcano, source(api.Quake, 4, 5, sp(3585, 5000)), slide}} {
		if left, e := quake.Left(exampleM(), exampleS(), l, picks, f); e != api.OK || !slices.Equal(left, want) {
			t.Error(f, left, e)
		}
	}
}

// input is what most functions of the package have.
type input struct {
	m        quake.Model
	stations []int
	l        []api.Source
	picks    []quake.Pick
	f        int
}

func (in input) left() []api.Source {
	l, e := quake.Left(in.m, in.stations, in.l, in.picks, in.f)
	if e != api.OK {
		panic(e)
	}
	return l
}

// randomInput has picks near the edges of what they allow, so that they agree as often as not.
func randomInput(r *rand.Rand) input {
	in := input{m: randomModel(r, 4), f: r.IntN(4)}
	for range 1 + r.IntN(4) {
		in.stations = append(in.stations, randomCell(r, in.m))
	}
	start := 200000 + r.IntN(1000000)
	for range 1 + r.IntN(6) {
		x := source(api.Quake, randomCell(r, in.m), 1+r.IntN(10), within(r, sp(start, start+80)))
		if r.IntN(6) == 0 {
			x.Kind = []int{api.Slide, api.Volcano}[r.IntN(2)]
		}
		in.l = append(in.l, x)
	}
	for range r.IntN(8) {
		in.picks = append(in.picks, randomPick(r, in))
	}
	return in
}

func randomPick(r *rand.Rand, in input) quake.Pick {
	x := in.l[r.IntN(len(in.l))]
	station := r.IntN(len(in.stations))
	travel, level := travelByDefinition(in.m, x.Cell, in.stations[station]), strengthsByDefinition(in.m, x.Class, x.Cell, in.stations[station])
	either := func(s api.Span) int { return []int{s.Lo, s.Hi}[r.IntN(2)] }
	time := max(0, start(r, x.Time)+either(travel)+r.IntN(41)-20)
	p := quake.Pick{Kind: 1 + r.IntN(3), Station: station, Time: sp(time, time+r.IntN(30))}
	if p.Kind == quake.Strength {
		near := either(level) + r.IntN(7) - 3
		p.Time, p.Level = api.Span{}, sp(near-r.IntN(3), near+r.IntN(3))
	}
	return p
}

func start(r *rand.Rand, s api.Span) int { return s.Lo + r.IntN(s.Hi-s.Lo+1) }

// allowsByDefinition follows the chapter's table.
func allowsByDefinition(in input, p quake.Pick, x api.Source, t int) bool {
	travel, level := travelByDefinition(in.m, x.Cell, in.stations[p.Station]), strengthsByDefinition(in.m, x.Class, x.Cell, in.stations[p.Station])
	switch p.Kind {
	case quake.Arrive:
		return !(t+travel.Lo > p.Time.Hi) && !(t+travel.Hi < p.Time.Lo)
	case quake.Strength:
		for n := level.Lo; n <= level.Hi; n++ {
			if n >= p.Level.Lo && n <= p.Level.Hi {
				return true
			}
		}
		return false
	}
	return t+travel.Hi > p.Time.Lo
}

// wrongByDefinition counts for each time of a source the picks that do not allow it.
func wrongByDefinition(in input, x api.Source) []int {
	var wrong []int
	for t := x.Time.Lo; t <= x.Time.Hi; t++ {
		n := 0
		for _, p := range in.picks {
			n += sizeOf(allowsByDefinition(in, p, x, t))
		}
		wrong = append(wrong, n)
	}
	return wrong
}

func leftByDefinition(in input) []api.Source {
	var left []api.Source
	for _, x := range in.l {
		if x.Kind != api.Quake {
			left = append(left, x)
			continue
		}
		var times []int
		for i, wrong := range wrongByDefinition(in, x) {
			if wrong <= in.f {
				times = append(times, x.Time.Lo+i)
			}
		}
		if len(times) > 0 {
			x.Time = sp(slices.Min(times), slices.Max(times))
			left = append(left, x)
		}
	}
	return left
}

func agreeByDefinition(in input) int {
	least := -1
	for _, x := range in.l {
		if x.Kind == api.Quake {
			wrong := slices.Min(wrongByDefinition(in, x))
			if least < 0 || wrong < least {
				least = wrong
			}
		}
	}
	return least
}

// P4.3, P4.6: what is left, and how many picks are false at least, by definition.
func TestLeftByDefinition(t *testing.T) {
	r := dice(10)
	struck, narrowed := 0, 0
	for k := range 4000 {
		in := randomInput(r)
		left, e := quake.Left(in.m, in.stations, in.l, in.picks, in.f)
		if e != api.OK || !slices.Equal(left, leftByDefinition(in)) {
			t.Error("Left", k, in, left, e)
		}
		agree, e := quake.Agree(in.m, in.stations, in.l, in.picks)
		if e != api.OK || agree != agreeByDefinition(in) {
			t.Error("Agree", k, in, agree, e)
		}
		struck += len(in.l) - len(left)
		if len(left) == len(in.l) && !slices.Equal(left, in.l) {
			narrowed++
		}
	}
	if struck < 1000 || narrowed < 300 {
		t.Error("few cases:", struck, narrowed)
	}
}

// P4.6: with the number that Agree returns a quake is left, with one less none is.
func TestAgreeIsLeast(t *testing.T) {
	r := dice(11)
	isQuake := func(x api.Source) bool { return x.Kind == api.Quake }
	for k := range 2000 {
		in := randomInput(r)
		n, e := quake.Agree(in.m, in.stations, in.l, in.picks)
		if e != api.OK || n > len(in.picks) || (n < 0) == slices.ContainsFunc(in.l, isQuake) {
			t.Error(k, n, e)
		}
		for f := range quake.MaxFalse + 1 {
			in.f = f
			if n >= 0 && slices.ContainsFunc(in.left(), isQuake) != (f >= n) {
				t.Error(k, n, f)
			}
		}
	}
}

// callsWith calls all functions that have stations and sources, those for one source only if there is one.
func callsWith(in input, proof []int) []call {
	left, e := quake.Left(in.m, in.stations, in.l, in.picks, in.f)
	agree, e2 := quake.Agree(in.m, in.stations, in.l, in.picks)
	x, e3 := quake.New(in.m, in.stations, in.l, in.f)
	calls := []call{{"Left", e, len(left)}, {"Agree", e2, agree}, {"New", e3, sizeOf(x == nil)}}
	if len(in.l) == 1 {
		found, isStruck, e := quake.Prove(in.m, in.stations, in.l[0], in.picks, in.f)
		calls = append(calls, call{"Prove", e, len(found) + sizeOf(!isStruck)}, call{"Verify", quake.Verify(in.m, in.stations, in.l[0], in.picks, in.f, proof), 0})
	}
	return calls
}

// fault is what can be wrong with an input.
type fault struct {
	part   string
	e      api.Errno
	change func(in *input)
}

// faults are in the order in which the functions look for them.
func faults() []fault {
	odd := []int{-1, math.MinInt, math.MaxInt}
	l := []fault{{"stations", api.ErrMany, func(in *input) { in.stations = make([]int, 65) }}}
	for _, cell := range append(odd, 5) {
		l = append(l, fault{"stations", api.ErrNone, func(in *input) { in.stations[len(in.stations)-1] = cell }})
	}
	l = append(l, fault{"sources", api.ErrMany, func(in *input) { in.l = slices.Repeat(in.l, 257) }})
	for _, bad := range badSources() {
		l = append(l, fault{"sources", bad.e, func(in *input) { in.l[len(in.l)-1] = bad.x }})
	}
	l = append(l, fault{"picks", api.ErrMany, func(in *input) { in.picks = slices.Repeat(in.picks[:1], 65) }})
	for _, bad := range badPicks() {
		l = append(l, fault{"picks", bad.e, func(in *input) { in.picks[len(in.picks)-1] = bad.p }})
	}
	for _, f := range append(odd, 9) {
		l = append(l, fault{"f", api.ErrRange, func(in *input) { in.f = f }})
	}
	return l
}

// looksFor says whether a function looks for what is wrong with a part: the others do not have this part.
func looksFor(name, part string) bool {
	return !(name == "Agree" && part == "f") && !(name == "New" && part == "picks")
}

// P4.3, P4.4, P4.6, P4.7, R1, R2: of the errors of Left the one named first is returned, also by the functions that return its errors, with zero values beside it.
func TestLeftErrors(t *testing.T) {
	faulty := func(l ...fault) {
		t.Helper()
		in := input{exampleM(), exampleS(), exampleL()[4:], []quake.Pick{arrive(0, sp(8000)), quiet(1, sp(2))}, 0}
		for _, x := range l {
			x.change(&in)
		}
		for k, c := range callsWith(in, []int{-1}) {
			i := slices.IndexFunc(l, func(x fault) bool { return looksFor(c.name, x.part) })
			if i >= 0 {
				expect(t, k, l[i].e, c)
			} else if c.e != api.OK {
				t.Error(c.name, c.e)
			}
		}
	}
	l := faults()
	for i, first := range l {
		faulty(first)
		for _, second := range l[i+1:] {
			if first.part != second.part || first.e == api.ErrMany {
				faulty(first, second)
			}
		}
	}
}

// R6: the first pick, and the first source, with an error decides.
func TestFirstOneDecides(t *testing.T) {
	fair := input{exampleM(), exampleS(), exampleL()[:1], []quake.Pick{arrive(0, sp(8000))}, 0}
	for _, first := range badPicks() {
		for k, second := range badPicks() {
			in := fair
			in.picks = append(slices.Clone(fair.picks), first.p, second.p)
			for _, c := range callsWith(in, []int{-1}) {
				if looksFor(c.name, "picks") {
					expect(t, k, first.e, c)
				}
			}
		}
	}
	for _, first := range badSources() {
		for k, second := range badSources() {
			in := fair
			in.l = append(slices.Clone(fair.l), first.x, second.x)
			expect(t, k, first.e, callsWith(in, nil)...)
		}
	}
	in := fair
	in.stations = []int{0, -1, 4}
	expect(t, 0, api.ErrNone, callsWith(in, nil)...)
}

// P4.3, R7: 64 stations, 256 sources, 64 picks, the last station, and 8 false picks are not too many.
func TestLeftLimits(t *testing.T) {
	in := input{exampleM(), slices.Repeat([]int{4}, 64), slices.Repeat(exampleL()[:1], 256), slices.Repeat([]quake.Pick{arrive(63, sp(0, 1000000000))}, 64), 8}
	in.picks[0], in.picks[1], in.picks[2] = arrive(0, sp(1000000000)), strength(63, sp(10000)), strength(0, sp(-10000))
	in.picks[3], in.picks[4] = quiet(63, sp(1000000000)), quiet(63, sp(0))
	if l, e := quake.Left(in.m, in.stations, in.l, in.picks, in.f); e != api.OK || !slices.Equal(l, in.l) {
		t.Error("Left", len(l), e)
	}
	if n, e := quake.Agree(in.m, in.stations, in.l, in.picks); e != api.OK || n != 4 {
		t.Error("Agree", n, e)
	}
	if x, e := quake.New(in.m, in.stations, in.l, in.f); e != api.OK || x == nil {
		t.Error("New", e)
	}
	if proof, isStruck, e := quake.Prove(in.m, in.stations, in.l[0], in.picks, 3); e != api.OK || !isStruck || !slices.Equal(proof, []int{0, 1, 2, 3}) {
		t.Error("Prove", proof, isStruck, e)
	}
}
