package tide_test

import (
	"math"
	"slices"
	"testing"

	"tidewall/api"
	"tidewall/tide"
)

// piecesOf cuts a span of times, by the definition of steps.
func piecesOf(t api.Span, step int) []api.Span {
	if t.Lo == t.Hi {
		return []api.Span{t}
	}
	var l []api.Span
	for lo := t.Lo; lo < t.Hi; lo += step {
		l = append(l, sp(lo, min(lo+step, t.Hi)))
	}
	return l
}

// peakOf is what Peak returns, by its definition.
func peakOf(m tide.Model, t api.Span, step int) api.Span {
	first, _ := tide.Level(m, sp(t.Lo))
	peak := sp(first.Lo, math.MinInt)
	for _, piece := range piecesOf(t, step) {
		end, _ := tide.Level(m, sp(piece.Hi))
		all, _ := tide.Level(m, piece)
		peak.Lo, peak.Hi = max(peak.Lo, end.Lo), max(peak.Hi, all.Hi)
	}
	return peak
}

// windowsOf is what Windows returns, by its definition: for each piece that is low the run around it, each run once.
func windowsOf(m tide.Model, t api.Span, step, level int) []api.Span {
	l := piecesOf(t, step)
	low := make([]bool, len(l)+1)
	for i, piece := range l {
		s, _ := tide.Level(m, piece)
		low[i] = s.Hi <= level
	}
	var runs []api.Span
	for i := range l {
		if !low[i] || i > 0 && low[i-1] {
			continue
		}
		last := i + slices.Index(low[i:], false) - 1
		runs = append(runs, sp(l[i].Lo, l[last].Hi))
	}
	return runs
}

// randomStep makes pieces of any of some numbers.
func randomStep(pick func(int) int, t api.Span) int {
	return max(1, (t.Hi-t.Lo)/(1+pick(40))+pick(3))
}

// P2.3: Peak and Windows, by their definitions.
func TestPiecesByDefinition(t *testing.T) {
	r := dice(20)
	several := 0
	for k := range 1500 {
		m := randomModel(r, r.IntN(5))
		times := randomTimes(r)
		step := randomStep(r.IntN, times)
		if s, e := tide.Peak(m, times, step); e != api.OK || s != peakOf(m, times, step) {
			t.Error("Peak", k, m, times, step, s, e, peakOf(m, times, step))
		}
		all, _ := tide.Level(m, times)
		for range 5 {
			level := within(r, all.Lo-1, all.Hi+1).Lo
			want := windowsOf(m, times, step, level)
			if l, e := tide.Windows(m, times, step, level); e != api.OK || !slices.Equal(l, want) {
				t.Error("Windows", k, m, times, step, level, l, e, want)
			}
			if len(want) > 1 {
				several++
			}
		}
	}
	if several < 100 {
		t.Error("few times with more than one window:", several)
	}
}

// The examples of the chapter.
func TestPiecesExamples(t *testing.T) {
	if s, e := tide.Peak(exampleM(), sp(0, hour), 600000); e != api.OK || s != sp(110, 135) {
		t.Error(s, e)
	}
	if l, e := tide.Windows(exampleM(), sp(0, hour), 600000, 20); e != api.OK || !slices.Equal(l, []api.Span{sp(1200000, 2400000)}) {
		t.Error(l, e)
	}
	if l, e := tide.Windows(exampleM(), sp(0, hour), 600000, -100); e != api.OK || len(l) != 0 {
		t.Error(l, e)
	}
}

// P2.3: the last piece can be shorter, a point is one piece, and the step can be longer than the span, as long as an integer can be.
func TestPiecesEnds(t *testing.T) {
	m := tide.Model{Parts: []tide.Part{{Amp: 1000, Period: 3600}}}
	for k, x := range []struct {
		times   api.Span
		step    int
		peak    api.Span
		windows []api.Span // not above 500
	}{
		{sp(0), 1, sp(1000), nil},
		{sp(600), 1, sp(500), []api.Span{sp(600)}},
		{sp(600), math.MaxInt, sp(500), []api.Span{sp(600)}},
		{sp(api.MaxTime), math.MaxInt, sp(173, 174), []api.Span{sp(api.MaxTime)}},
		{sp(1000, 4000), 1000, sp(766, 1000), []api.Span{sp(1000, 3000)}},
		{sp(1000, 4000), 1500, sp(766, 1000), []api.Span{sp(1000, 2500)}},
		{sp(1000, 4000), 700, sp(939, 1000), []api.Span{sp(1000, 2400)}},
		{sp(1000, 4000), 2000, sp(766, 1000), []api.Span{sp(1000, 3000)}},
		{sp(1000, 4000), 2999, sp(767, 1000), nil},
		{sp(1000, 4000), 3000, sp(766, 1000), nil},
		{sp(1000, 4000), 3001, sp(766, 1000), nil},
		{sp(1000, 4000), math.MaxInt, sp(766, 1000), nil},
		{sp(0, 7200), 600, sp(1000), []api.Span{sp(600, 3000), sp(4200, 6600)}},
		{sp(0, 7200), 601, sp(1000), []api.Span{sp(601, 2404), sp(4207, 6010)}},
		{sp(600, 3000), 2400, sp(500), []api.Span{sp(600, 3000)}},
		{sp(600, 3001), 2400, sp(501, 502), []api.Span{sp(600, 3000)}},
		{sp(599, 3000), 2400, sp(501, 502), []api.Span{sp(2999, 3000)}},
	} {
		if s, e := tide.Peak(m, x.times, x.step); e != api.OK || s != x.peak {
			t.Error("Peak", k, s, e)
		}
		if l, e := tide.Windows(m, x.times, x.step, 500); e != api.OK || !slices.Equal(l, x.windows) {
			t.Error("Windows", k, l, e)
		}
	}
}

// P2.3: the errors of times, steps and levels, and their order; R7: the greatest number of pieces.
func TestPiecesErrors(t *testing.T) {
	for k, times := range badTimes() {
		checkPieces(t, k, times, 1, 0, api.ErrRange)
	}
	for k, x := range []struct {
		times api.Span
		step  int
		e     api.Errno
	}{
		{sp(0, 10), 0, api.ErrRange},
		{sp(0, 10), -1, api.ErrRange},
		{sp(0, api.MaxTime), 0, api.ErrRange},
		{sp(0), 0, api.ErrRange},
		{sp(0, 10), math.MinInt, api.ErrRange},
		{sp(0, 10000), 1, api.OK},
		{sp(0, 10001), 1, api.ErrMany},
		{sp(5, 10005), 1, api.OK},
		{sp(5, 10006), 1, api.ErrMany},
		{sp(0, 30000), 3, api.OK},
		{sp(0, 29999), 3, api.OK},
		{sp(0, 29998), 3, api.OK},
		{sp(0, 30001), 3, api.ErrMany},
		{sp(0, api.MaxTime), 100000, api.OK},
		{sp(0, api.MaxTime), 99999, api.ErrMany},
		{sp(0, api.MaxTime), 1, api.ErrMany},
		{sp(0, api.MaxTime), math.MaxInt, api.OK},
	} {
		checkPieces(t, 100+k, x.times, x.step, 0, x.e)
		if x.e != api.OK {
			checkPieces(t, 200+k, x.times, x.step, 20001, x.e)
		}
	}
	for k, level := range []int{-20001, 20001, math.MinInt, math.MaxInt} {
		if l, e := tide.Windows(exampleM(), sp(0, 10), 1, level); e != api.ErrRange || len(l) != 0 {
			t.Error(k, l, e)
		}
	}
	if l, e := tide.Windows(exampleM(), sp(0, 10), 1, -20000); e != api.OK || len(l) != 0 {
		t.Error(l, e)
	}
	if l, e := tide.Windows(exampleM(), sp(0, 10), 1, 20000); e != api.OK || !slices.Equal(l, []api.Span{sp(0, 10)}) {
		t.Error(l, e)
	}
}

// checkPieces checks the error of both functions with pieces; a level that is out of range is for Windows alone.
func checkPieces(t *testing.T, k int, times api.Span, step, level int, want api.Errno) {
	t.Helper()
	m := tide.Model{Parts: []tide.Part{{Amp: 1, Period: 5}}}
	if s, e := tide.Peak(m, times, step); e != want || e != api.OK && s != sp(0) {
		t.Error("Peak", k, s, e)
	}
	if l, e := tide.Windows(m, times, step, level); e != want || e != api.OK && len(l) != 0 {
		t.Error("Windows", k, l, e)
	}
}

// P2.6: the highest true level of a span is within Peak, whatever the step.
func TestPeakHasHighest(t *testing.T) {
	r := dice(21)
	for k := range 300 {
		m := randomModel(r, r.IntN(4))
		times := randomTimes(r)
		step := randomStep(r.IntN, times)
		s, e := tide.Peak(m, times, step)
		if e != api.OK {
			t.Fatal(k, e)
		}
		highest := math.Inf(-1)
		for _, piece := range piecesOf(times, step) {
			for i := range 20 {
				time := float64(piece.Lo) + float64(piece.Hi-piece.Lo)*float64(i)/19
				highest = max(highest, trueLevel(m, time))
			}
		}
		// The true one is at least as high as the highest one that was looked at, which were the ends of pieces and times between them.
		if highest < float64(s.Lo)-1e-6 || highest > float64(s.Hi)+1e-6 {
			t.Error(k, m, times, step, highest, s)
		}
		all, _ := tide.Level(m, times)
		if !spanIn(s, all) || s.Lo > s.Hi {
			t.Error(k, s, all)
		}
	}
}

// P2.7: in a window the true level is never above the level; windows do not touch, and lie within those of greater levels.
func TestWindowsAreLow(t *testing.T) {
	r := dice(22)
	found := 0
	for k := range 500 {
		m := randomModel(r, r.IntN(4))
		times := randomTimes(r)
		step := randomStep(r.IntN, times)
		all, _ := tide.Level(m, times)
		level := within(r, all.Lo, all.Hi).Lo
		l, e := tide.Windows(m, times, step, level)
		if e != api.OK {
			t.Fatal(k, e)
		}
		greater, _ := tide.Windows(m, times, step, level+r.IntN(100))
		for i, w := range l {
			found++
			if !spanIn(w, times) || w.Lo > w.Hi || i > 0 && w.Lo <= l[i-1].Hi {
				t.Error(k, times, l)
			}
			if !slices.ContainsFunc(greater, func(g api.Span) bool { return spanIn(w, g) }) {
				t.Error(k, w, greater)
			}
			for range 10 {
				time := float64(w.Lo) + r.Float64()*float64(w.Hi-w.Lo)
				if trueLevel(m, time) > float64(level)+1e-6 {
					t.Error(k, m, w, time, trueLevel(m, time), level)
				}
			}
		}
	}
	if found < 200 {
		t.Error("few windows:", found)
	}
}

// P2.3, P0: the most pieces of the greatest model.
func TestMostPieces(t *testing.T) {
	m := randomModel(dice(23), tide.MaxParts)
	m.Mean = 0
	times := sp(0, api.MaxTime)
	if s, e := tide.Peak(m, times, api.MaxTime/tide.MaxSteps); e != api.OK || s != peakOf(m, times, api.MaxTime/tide.MaxSteps) {
		t.Error(s, e)
	}
	if l, e := tide.Windows(m, times, api.MaxTime/tide.MaxSteps, 20000); e != api.OK || !slices.Equal(l, []api.Span{times}) {
		t.Error(l, e)
	}
}
