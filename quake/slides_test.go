package quake_test

import (
	"math"
	"math/rand/v2"
	"slices"
	"testing"

	"tidewall/api"
	"tidewall/quake"
)

func slides(t *testing.T, m quake.Model, l []api.Source, lag int) []api.Source {
	t.Helper()
	left, e := quake.Slides(m, l, lag)
	if e != api.OK {
		t.Fatal(l, lag, e)
	}
	return left
}

// The example of the chapter, and slides at the edges of what is left of them.
func TestSlidesExamples(t *testing.T) {
	q := source(api.Quake, 0, 5, sp(0, 100))
	slide := func(time api.Span) api.Source { return source(api.Slide, 4, 5, time) }
	volcano := source(api.Volcano, 4, 5, sp(0, 9))
	for k, x := range []struct {
		l    []api.Source
		lag  int
		want []api.Source
	}{
		{[]api.Source{q, slide(sp(0, 100000))}, 1000, []api.Source{q, slide(sp(1500, 6200))}},
		{[]api.Source{q, slide(sp(0, 100000))}, 0, []api.Source{q, slide(sp(1500, 5200))}},
		{[]api.Source{q, slide(sp(2000, 3000))}, 0, []api.Source{q, slide(sp(2000, 3000))}},
		{[]api.Source{q, slide(sp(0, 1499))}, 1000, []api.Source{q}},
		{[]api.Source{q, slide(sp(0, 1500))}, 1000, []api.Source{q, slide(sp(1500))}},
		{[]api.Source{q, slide(sp(6201, 9000))}, 1000, []api.Source{q}},
		{[]api.Source{q, slide(sp(6200, 9000))}, 1000, []api.Source{q, slide(sp(6200))}},
		{[]api.Source{slide(sp(0, 100000)), volcano}, 100000000, []api.Source{volcano}},
		{[]api.Source{slide(sp(0, 100000))}, 0, nil},
		{nil, 0, nil},
		{[]api.Source{slide(sp(0, 100)), volcano, slide(sp(0, 2000)), q, slide(sp(7000, 8000)), slide(sp(1, 7000))}, 1000, []api.Source{volcano, slide(sp(1500, 2000)), q, slide(sp(1500, 6200))}},
		// Two quakes: from what the first one does at the earliest to what the second one does at the latest, with all between them.
		{[]api.Source{q, slide(sp(0, 100000)), source(api.Quake, 4, 1, sp(50000, 60000))}, 10, []api.Source{q, slide(sp(1500, 61425)), source(api.Quake, 4, 1, sp(50000, 60000))}},
		{[]api.Source{q, slide(sp(20000, 30000)), source(api.Quake, 4, 1, sp(50000))}, 10, []api.Source{q, slide(sp(20000, 30000)), source(api.Quake, 4, 1, sp(50000))}},
		{[]api.Source{source(api.Quake, 4, 5, sp(1000000000)), slide(sp(0, 1000000000))}, 100000000, []api.Source{source(api.Quake, 4, 5, sp(1000000000)), slide(sp(1000000000))}},
	} {
		if left := slides(t, exampleM(), x.l, x.lag); !slices.Equal(left, x.want) {
			t.Error(k, left)
		}
	}
}

// P4.5: the error of the sources comes before that of the lag.
func TestSlidesErrors(t *testing.T) {
	for k, lag := range []int{-1, 100000001, math.MinInt, math.MaxInt} {
		expect(t, k, api.ErrRange, callSlides(exampleM(), exampleL(), lag), callSlides(exampleM(), nil, lag))
		for _, bad := range badSources() {
			expect(t, k, bad.e, callSlides(exampleM(), append(exampleL(), bad.x), lag), callSlides(exampleM(), []api.Source{bad.x}, 0))
		}
	}
	expect(t, 0, api.OK, callSlides(exampleM(), exampleL(), 0), callSlides(exampleM(), exampleL(), 100000000))
	many := slices.Repeat(exampleL()[:1], 257)
	expect(t, 0, api.ErrMany, callSlides(exampleM(), many, 0), callSlides(exampleM(), many, -1))
	expect(t, 0, api.OK, callSlides(exampleM(), many[:256], 0))
}

// randomSlides has quakes and slides at times that are near each other.
func randomSlides(r *rand.Rand) (quake.Model, []api.Source, int) {
	m := randomModel(r, 5)
	var l []api.Source
	for range 1 + r.IntN(6) {
		first := r.IntN(1000)
		x := source(1+r.IntN(3), randomCell(r, m), 1+r.IntN(10), sp(first, first+r.IntN(500)))
		if x.Kind == api.Slide {
			reach := travelByDefinition(m, randomCell(r, m), x.Cell)
			x.Time.Lo += reach.Lo
			x.Time.Hi += []int{reach.Lo, reach.Hi}[r.IntN(2)]
		}
		l = append(l, x)
	}
	return m, l, r.IntN([]int{1, 100, 1000}[r.IntN(3)])
}

func slidesByDefinition(m quake.Model, l []api.Source, lag int) []api.Source {
	var left []api.Source
	for _, x := range l {
		var first, last []int
		for _, q := range l {
			if q.Kind == api.Quake {
				travel := travelByDefinition(m, q.Cell, x.Cell)
				first, last = append(first, q.Time.Lo+travel.Lo), append(last, q.Time.Hi+travel.Hi+lag)
			}
		}
		if x.Kind == api.Slide {
			if len(first) == 0 {
				continue
			}
			x.Time = sp(max(x.Time.Lo, slices.Min(first)), min(x.Time.Hi, slices.Max(last)))
			if x.Time.Lo > x.Time.Hi {
				continue
			}
		}
		left = append(left, x)
	}
	return left
}

// P4.5: what is left of slides by definition.
func TestSlidesByDefinition(t *testing.T) {
	r := dice(30)
	struck, narrowed := 0, 0
	for k := range 5000 {
		m, l, lag := randomSlides(r)
		left := slides(t, m, l, lag)
		if !slices.Equal(left, slidesByDefinition(m, l, lag)) {
			t.Error(k, m, l, lag, left)
		}
		struck += len(l) - len(left)
		if len(l) == len(left) && !slices.Equal(l, left) {
			narrowed++
		}
	}
	if struck < 500 || narrowed < 300 {
		t.Error("few cases:", struck, narrowed)
	}
}

// numbered gives each source a class of its own, by which it can be told from the others.
func numbered(l []api.Source) []api.Source {
	l = slices.Clone(l)
	for i := range l {
		l[i].Class = i + 1
	}
	return l
}

// isWithin says whether all sources of a list are, with other times that lie within those, in another one. Each source has a class of its own.
func isWithin(l, others []api.Source) bool {
	for _, x := range l {
		i := slices.IndexFunc(others, func(y api.Source) bool { return y.Class == x.Class })
		if i < 0 || x.Kind != others[i].Kind || x.Cell != others[i].Cell || !spanIn(x.Time, others[i].Time) || x.Time.Lo > x.Time.Hi {
			return false
		}
	}
	return true
}

// P4.12: what is left of slides is within them, and not more with fewer quakes, or a lesser lag.
func TestSlidesShrink(t *testing.T) {
	r := dice(31)
	for k := range 3000 {
		m, l, lag := randomSlides(r)
		l = numbered(l)
		left := slides(t, m, l, lag)
		if !isWithin(left, l) || !isWithin(slides(t, m, l, r.IntN(lag+1)), left) {
			t.Error(k, m, l, lag, left)
		}
		fewer := slices.DeleteFunc(slices.Clone(l), func(x api.Source) bool { return x.Kind == api.Quake && r.IntN(2) == 0 })
		if !isWithin(slides(t, m, fewer, lag), left) {
			t.Error(k, m, l, fewer, lag, left)
		}
		narrower := slices.Clone(l)
		for i, x := range narrower {
			narrower[i].Time = within(r, x.Time)
		}
		if !isWithin(slides(t, narrowerModel(r, m), narrower, lag), left) {
			t.Error(k, m, l, narrower, lag, left)
		}
	}
}

// P4.12: a slide that follows a quake is left, and its time is in its span.
func TestSlidesThatFollow(t *testing.T) {
	r := dice(32)
	for k := range 5000 {
		m, l, lag := randomSlides(r)
		q := source(api.Quake, randomCell(r, m), 1, within(r, sp(0, 1000)))
		cell := randomCell(r, m)
		travel, _ := quake.Travel(m, q.Cell, cell)
		time := start(r, q.Time) + start(r, travel) + r.IntN(lag+1)
		slide := source(api.Slide, cell, 10, sp(max(0, time-r.IntN(5000)), time+r.IntN(5000)))
		left := slides(t, m, append(l, q, slide), lag)
		last := left[len(left)-1]
		if last.Kind != api.Slide || last.Class != 10 || !spanIn(sp(time), last.Time) {
			t.Error(k, m, q, slide, time, left)
		}
	}
}
