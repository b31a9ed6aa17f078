package gauge

import (
	"math"
	"slices"
	"testing"

	"tidewall/api"
	"tidewall/wave"
)

// example is an inquiry with readings at one gauge, of a source whose wave comes there between 10 and 12 ms after its beginning, at 0.
func example(quiet bool, l ...Reading) (inquiry, api.Source) {
	x := api.Source{Kind: api.Slide, Class: 1, Time: api.Span{Lo: 3, Hi: 60}}
	q := inquiry{Case: Case{Sources: []api.Source{x}, Quiet: quiet, Readings: l}}
	nothing := wave.Bound{Arrive: api.Span{Lo: api.Never, Hi: api.Never}}
	q.waves = map[api.Source][]wave.Bound{
		timeless(x): {{Arrive: api.Span{Lo: 10, Hi: 12}, Rise: api.Span{Lo: 5, Hi: 7}}},
		noWave():    {nothing},
	}
	for _, r := range l {
		q.meanings = append(q.meanings, meaning{Reading: r, outer: r.Time, inner: r.Time, truth: r.Level})
	}
	return q, x
}

// exampleReadings have some turns in common.
func exampleReadings() []Reading {
	came := Reading{Kind: Came, Time: api.Span{Lo: 30, Hi: 40}}
	return []Reading{came, {Kind: Calm, Time: api.Span{Lo: 20, Hi: 25}}, came}
}

// One can stop ranging over pieces at any of them. They follow one another, and have all times; those with the same readings can be several ones.
func TestPiecesStop(t *testing.T) {
	q, x := example(false, exampleReadings()...)
	var all []api.Span
	var wrong []set
	for piece, w := range q.pieces(x) {
		all, wrong = append(all, piece), append(wrong, w)
	}
	if len(all) < 4 || all[0].Lo != 3 || all[len(all)-1].Hi != 60 {
		t.Fatal(all)
	}
	for i, piece := range all {
		if piece.Lo > piece.Hi || i > 0 && piece.Lo != all[i-1].Hi+1 {
			t.Error(i, all)
		}
		for time := piece.Lo; time <= piece.Hi; time++ {
			var want set
			if time < 18 || time > 30 {
				want = want.with(0).with(2)
			}
			if time <= 8 {
				want = want.with(1)
			}
			if wrong[i] != want {
				t.Error(i, piece, time, wrong[i], want)
			}
		}
	}
	for n := 1; n <= len(all); n++ {
		var got []api.Span
		for piece := range q.pieces(x) {
			got = append(got, piece)
			if len(got) == n {
				break
			}
		}
		if !slices.Equal(got, all[:n]) {
			t.Error(n, got)
		}
	}
}

// One can stop ranging over possibilities at any of them; the last one is no wave, which has a single piece.
func TestPossibilitiesStop(t *testing.T) {
	q, x := example(true, exampleReadings()...)
	var all []set
	for _, wrong := range q.pieces(x) {
		all = append(all, wrong)
	}
	all = append(all, set(0).with(0).with(2))
	for n := 1; n <= len(all); n++ {
		var got []set
		for wrong := range q.possibilities() {
			got = append(got, wrong)
			if len(got) == n {
				break
			}
		}
		if !slices.Equal(got, all[:n]) {
			t.Error(n, got)
		}
	}
	if got := slices.Collect(q.possibilities()); !slices.Equal(got, all) {
		t.Error(got, all)
	}
	q.Quiet = false
	if got := slices.Collect(q.possibilities()); !slices.Equal(got, all[:len(all)-1]) {
		t.Error(got, all)
	}
}

// A source without readings, or at a single time, is one piece.
func TestSinglePieces(t *testing.T) {
	q, x := example(false)
	point := x
	point.Time = api.Span{Lo: 18, Hi: 18}
	full, _ := example(false, exampleReadings()...)
	for k, l := range [][]api.Span{piecesOf(q, x), piecesOf(q, point), piecesOf(full, point), piecesOf(full, noWave())} {
		want := []api.Span{x.Time, point.Time, point.Time, {}}[k]
		if !slices.Equal(l, []api.Span{want}) {
			t.Error(k, l)
		}
	}
}

func piecesOf(q inquiry, x api.Source) []api.Span {
	var l []api.Span
	for piece := range q.pieces(x) {
		l = append(l, piece)
	}
	return l
}

// Bounds are kept once for sources that differ in their times alone, and for no wave.
func TestWavesAreKeptBySources(t *testing.T) {
	s := Site{Grid: api.Grid{Wide: 2, High: 1, Size: 100, Ground: []api.Span{{Lo: -100, Hi: -100}, {Lo: -100, Hi: -100}}}, Wave: wave.Model{Keep: api.Span{Lo: 1, Hi: 1}, Land: api.Span{Lo: 10, Hi: 10}}}
	at := func(cell, class, time int) api.Source {
		return api.Source{Kind: api.Slide, Cell: cell, Class: class, Time: api.Span{Lo: time, Hi: time + 5}}
	}
	waves := wavesOf(s, []api.Source{at(0, 1, 9), at(0, 1, 0), at(1, 1, 9), at(0, 2, 9), at(0, 1, 77)})
	if len(waves) != 4 {
		t.Error(waves)
	}
	for x, bounds := range waves {
		if x == noWave() {
			never := wave.Bound{Arrive: api.Span{Lo: api.Never, Hi: api.Never}}
			if !slices.Equal(bounds, []wave.Bound{never, never}) {
				t.Error(bounds)
			}
			continue
		}
		want, e := wave.One(s.Grid, api.Span{}, s.Wave, x)
		if e != api.OK || x.Time != (api.Span{}) || !slices.Equal(bounds, want) {
			t.Error(x, bounds, want, e)
		}
	}
}

// Sets have room for all readings.
func TestSets(t *testing.T) {
	var s set
	for i := range MaxReadings {
		if s.has(i) || s.size() != i {
			t.Error(i, s)
		}
		s = s.with(i)
		if !s.has(i) || s.with(i) != s || s.without(i).has(i) || s.without(i).size() != i {
			t.Error(i, s)
		}
	}
}

// R5: quotients, also of what is negative.
func TestQuotients(t *testing.T) {
	for n := -60; n <= 60; n++ {
		for divisor := 1; divisor < 13; divisor++ {
			exact := float64(n) / float64(divisor)
			if down(n, divisor) != int(math.Floor(exact)) || up(n, divisor) != int(math.Ceil(exact)) {
				t.Error(n, divisor, down(n, divisor), up(n, divisor))
			}
		}
	}
}
