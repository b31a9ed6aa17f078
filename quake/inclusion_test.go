package quake_test

import (
	"math"
	"math/rand/v2"
	"slices"
	"testing"

	"tidewall/api"
	"tidewall/quake"
)

// truth is a quake that happened: where it was in its cell, in metres, how deep, and when.
type truth struct {
	x, y, depth float64
	time        int
}

func between(r *rand.Rand, s api.Span) float64 {
	switch r.IntN(4) {
	case 0:
		return float64(s.Lo)
	case 1:
		return float64(s.Hi)
	}
	return float64(s.Lo) + r.Float64()*float64(s.Hi-s.Lo)
}

// somewhere is a place in a cell, often in one of its corners.
func somewhere(r *rand.Rand, m quake.Model, cell int) (x, y float64) {
	column, row := cell%m.Wide*m.Size, cell/m.Wide*m.Size
	return between(r, sp(column, column+m.Size)), between(r, sp(row, row+m.Size))
}

func randomTruth(r *rand.Rand, m quake.Model, s api.Source) truth {
	x, y := somewhere(r, m, s.Cell)
	return truth{x, y, between(r, m.Depth), start(r, s.Time)}
}

// far is the distance of a truth from a place on the ground.
func (q truth) far(x, y float64) float64 {
	return math.Sqrt((x-q.x)*(x-q.x) + (y-q.y)*(y-q.y) + q.depth*q.depth)
}

// truePick is a pick of a station that says what is true of a quake, as narrow as often as not.
func truePick(r *rand.Rand, in input, q truth, class, station int) quake.Pick {
	far := q.far(somewhere(r, in.m, in.stations[station]))
	came := float64(q.time) + 1000*far/between(r, in.m.Speed)
	loose := func(n int) int { return []int{0, 0, r.IntN(3), r.IntN(1000)}[r.IntN(4)] * n }
	switch 1 + r.IntN(3) {
	case quake.Arrive:
		return arrive(station, sp(max(0, int(math.Floor(came))+loose(-1)), int(math.Ceil(came))+loose(1)))
	case quake.Strength:
		strong := 100*class - 30*int(math.Log2(math.Floor(far/1000)+1)) + r.IntN(2*in.m.Spread+1) - in.m.Spread
		return strength(station, sp(max(-10000, strong+loose(-1)), strong+loose(1)))
	}
	// No time is before a wave that comes at the time 0.
	last := max(0, int(math.Ceil(came))-1)
	if float64(last) >= came {
		return arrive(station, sp(0))
	}
	return quiet(station, sp(max(0, last+loose(-1)), last+loose(1)))
}

// P4.8, G1: a quake that happened is left, with its time, if all picks but f are true.
func TestTruthRemains(t *testing.T) {
	r := dice(50)
	narrowed := 0
	for k := range 10000 {
		in := randomInput(r)
		s := source(api.Quake, randomCell(r, in.m), 1+r.IntN(10), sp(0))
		s.Time.Lo = r.IntN(2000)
		s.Time.Hi = s.Time.Lo + r.IntN(2000000)
		q := randomTruth(r, in.m, s)
		wrong := r.IntN(in.f + 1)
		in.picks = in.picks[:min(wrong, len(in.picks))]
		for range r.IntN(8) {
			in.picks = append(in.picks, truePick(r, in, q, s.Class, r.IntN(len(in.stations))))
		}
		r.Shuffle(len(in.picks), func(i, j int) { in.picks[i], in.picks[j] = in.picks[j], in.picks[i] })
		in.l = append(in.l, s)
		left := in.left()
		if len(left) == 0 {
			t.Error(k, in, q)
			continue
		}
		last := left[len(left)-1]
		if last.Cell != s.Cell || last.Class != s.Class || !spanIn(last.Time, s.Time) || !spanIn(sp(q.time), last.Time) {
			t.Error(k, in, q, last)
		}
		if last != s {
			narrowed++
		}
	}
	if narrowed < 3000 {
		t.Error("few cases:", narrowed)
	}
}

// known gives each source of an input a class of its own, by which it can be told from the others.
func known(in input) input {
	in.l = numbered(in.l)
	return in
}

// P4.9, G1: with more picks, or a lesser f, what is left lies within what is left with fewer, or with a greater one.
func TestSetsShrink(t *testing.T) {
	r := dice(51)
	for k := range 5000 {
		in := known(randomInput(r))
		left := in.left()
		if !isWithin(left, in.l) {
			t.Error("sources", k, in, left)
		}
		fewer := in
		fewer.picks = slices.DeleteFunc(slices.Clone(in.picks), func(quake.Pick) bool { return r.IntN(3) == 0 })
		if !isWithin(left, fewer.left()) {
			t.Error("picks", k, in, fewer.picks)
		}
		greater := in
		greater.f += r.IntN(5)
		if !isWithin(left, greater.left()) {
			t.Error("f", k, in, greater.f)
		}
	}
}

// P4.9: the order of the picks does not matter, and what is left of what is left is the same.
func TestLeftStays(t *testing.T) {
	r := dice(52)
	for k := range 5000 {
		in := randomInput(r)
		left := in.left()
		again := in
		again.l = left
		if !slices.Equal(again.left(), left) {
			t.Error("again", k, in, left)
		}
		other := in
		other.picks = slices.Clone(in.picks)
		r.Shuffle(len(other.picks), func(i, j int) { other.picks[i], other.picks[j] = other.picks[j], other.picks[i] })
		if !slices.Equal(other.left(), left) {
			t.Error("order", k, in, left)
		}
	}
}

// P4.11, G1: with a model, sources and picks that are known better, or fewer sources, what is left lies within what is left there.
func TestLeftKnownBetter(t *testing.T) {
	r := dice(53)
	struck := 0
	for k := range 5000 {
		in := known(randomInput(r))
		left := in.left()
		better := in
		better.m = narrowerModel(r, in.m)
		if !isWithin(better.left(), left) {
			t.Error("model", k, in, better.m)
		}
		better.l, better.picks = nil, slices.Clone(in.picks)
		for _, x := range in.l {
			if r.IntN(5) > 0 {
				x.Time = within(r, x.Time)
				better.l = append(better.l, x)
			}
		}
		for i, p := range in.picks {
			better.picks[i].Time, better.picks[i].Level = within(r, p.Time), within(r, p.Level)
			if p.Kind == quake.Quiet {
				better.picks[i].Time = p.Time
			}
		}
		all := better.left()
		if !isWithin(all, left) {
			t.Error("all", k, in, better)
		}
		struck += len(left) - len(all)
	}
	if struck < 1000 {
		t.Error("few cases:", struck)
	}
}
