package quake_test

import (
	"math"
	"slices"
	"testing"

	"tidewall/api"
	"tidewall/quake"
)

// P0 and R5: whatever integers they are given, all functions end without a panic, and never take what is out of range for valid.
func TestAnyIntegers(t *testing.T) {
	r := dice(60)
	odd := []int{math.MinInt, math.MinInt + 1, -1 << 40, -10001, -10000, -1, 0, 0, 1, 1, 2, 3, 4, 5, 8, 9, 10, 11, 24, 25, 99, 100, 576, 1000, 1001, 10000, 10001, 20000, 20001, 700000, 700001, 100000000, 100000001, 1000000000, 1000000001, 1 << 32, 1 << 40, 1 << 62, math.MaxInt - 1, math.MaxInt}
	pick := func() int { return odd[r.IntN(len(odd))] }
	number := func(least, greatest int) int {
		if r.IntN(40) > 0 {
			return least + r.IntN(greatest-least+1)
		}
		return pick()
	}
	span := func(least, greatest int) api.Span {
		if r.IntN(40) > 0 {
			return within(r, sp(least, greatest))
		}
		return sp(pick(), pick())
	}
	isSpan := func(s api.Span, least, greatest int) bool {
		return s.Lo <= s.Hi && s.Lo >= least && s.Hi <= greatest
	}
	first := func(l ...api.Errno) api.Errno {
		i := slices.IndexFunc(l, func(e api.Errno) bool { return e != api.OK })
		if i < 0 {
			return api.OK
		}
		return l[i]
	}
	unless := func(holds bool, e api.Errno) api.Errno {
		if holds {
			return api.OK
		}
		return e
	}
	valid := 0
	for range 30000 {
		m := quake.Model{Wide: number(1, 24), High: number(1, 24), Size: number(1, 10000), Speed: span(100, 20000), Depth: span(0, 700000), Spread: number(0, 1000)}
		badModel := unless(isSpan(sp(m.Wide), 1, 24) && isSpan(sp(m.High), 1, 24) && isSpan(sp(m.Size), 1, 10000) && isSpan(m.Speed, 100, 20000) && isSpan(m.Depth, 0, 700000) && isSpan(sp(m.Spread), 0, 1000), api.ErrRange)
		last := 0
		if badModel == api.OK {
			last = m.Wide*m.High - 1
		}
		station, cell, class, f, lag := number(0, last), number(0, last), number(1, 10), number(0, 8), number(0, 100000000)
		x := source(number(1, 3), cell, class, span(0, 1000000000))
		p := quake.Pick{Kind: number(1, 3), Station: number(0, 0), Time: span(0, 1000000000), Level: span(-10000, 10000)}
		classes, proof := span(1, 10), []int{number(0, 0)}
		badStation, badCell := unless(isSpan(sp(station), 0, last), api.ErrNone), unless(isSpan(sp(cell), 0, last), api.ErrNone)
		badClass, badTime := unless(isSpan(sp(class), 1, 10), api.ErrRange), unless(isSpan(x.Time, 0, 1000000000), api.ErrRange)
		badSource := first(unless(isSpan(sp(x.Kind), 1, 3), api.ErrArg), badCell, badClass, badTime)
		badSpan := unless(p.Kind == quake.Strength && isSpan(p.Level, -10000, 10000) || p.Kind != quake.Strength && isSpan(p.Time, 0, 1000000000), api.ErrRange)
		badPick := first(unless(isSpan(sp(p.Kind), 1, 3), api.ErrArg), unless(p.Station == 0, api.ErrNone), badSpan)
		badMost, badLag := unless(isSpan(sp(f), 0, 8), api.ErrRange), unless(isSpan(sp(lag), 0, 100000000), api.ErrRange)
		badProof := unless(proof[0] == 0, api.ErrNone)
		stations, l, picks := []int{station}, []api.Source{x}, []quake.Pick{p}

		_, travel := quake.Travel(m, cell, station)
		_, strengths := quake.Strengths(m, class, station, cell)
		_, sources := quake.Sources(m, []int{cell}, classes, x.Time)
		_, left := quake.Left(m, stations, l, picks, f)
		_, _, prove := quake.Prove(m, stations, x, picks, f)
		verify := quake.Verify(m, stations, x, picks, f, proof)
		_, slides := quake.Slides(m, l, lag)
		_, agree := quake.Agree(m, stations, l, picks)
		locator, made := quake.New(m, stations, l, f)
		_, add := locator.Add(p)
		locator.Left()
		if verify == api.ErrProof {
			verify = api.OK
		}
		got := []api.Errno{quake.Check(m), travel, strengths, sources, quake.CheckSources(m, l), left, prove, verify, slides, agree, made, add}
		want := []api.Errno{
			badModel,
			first(badModel, badStation, badCell),
			first(badModel, badStation, badCell, badClass),
			first(badModel, badCell, unless(isSpan(classes, 1, 10), api.ErrRange), badTime),
			first(badModel, badSource),
			first(badModel, badStation, badSource, badPick, badMost),
			first(badModel, badStation, badSource, badPick, badMost),
			first(badModel, badStation, badSource, badPick, badMost, badProof),
			first(badModel, badSource, badLag),
			first(badModel, badStation, badSource, badPick),
			first(badModel, badStation, badSource, badMost),
			first(unless(made == api.OK, api.ErrNil), badPick),
		}
		if !slices.Equal(got, want) {
			t.Error(m, x, p, station, f, lag, got, want)
		}
		if left == api.OK {
			valid++
		}
	}
	if valid < 3000 {
		t.Error("few of the calls were valid:", valid)
	}
}

// P0: picks that contradict at the ends of all times, with the greatest travel times.
func TestEndsOfTime(t *testing.T) {
	m := quake.Model{Wide: 24, High: 24, Size: 10000, Speed: sp(100), Depth: sp(700000)}
	whole := sp(0, 1000000000)
	l := []api.Source{source(api.Quake, 0, 10, whole), source(api.Slide, 575, 1, whole)}
	travel, _ := quake.Travel(m, 0, 575)
	in := input{m, []int{575}, l, []quake.Pick{arrive(0, sp(0))}, 0}
	if left := in.left(); !slices.Equal(left, l[1:]) {
		t.Error(left)
	}
	in.picks = []quake.Pick{arrive(0, sp(1000000000))}
	if left := in.left(); len(left) != 2 || left[0].Time != sp(1000000000-travel.Hi, 1000000000-travel.Lo) {
		t.Error(left, travel)
	}
	in.picks = []quake.Pick{quiet(0, sp(1000000000))}
	if left := in.left(); len(left) != 2 || left[0].Time != sp(1000000000-travel.Hi+1, 1000000000) {
		t.Error(left, travel)
	}
	in.picks = []quake.Pick{strength(0, sp(-10000, 10000))}
	if left := in.left(); !slices.Equal(left, l) {
		t.Error(left)
	}
	if left := slides(t, m, l, 100000000); len(left) != 2 || left[1].Time != sp(travel.Lo, 1000000000) {
		t.Error(left, travel)
	}
}

// R4: no call changes its arguments, nor what lies behind them.
func TestArgumentsStay(t *testing.T) {
	stations, cells, proof := []int{0, 4, 3}, []int{0, 2, 4, 1}, []int{0, 1, 0}
	l := append(exampleL(), source(api.Slide, 4, 5, sp(0, 100000)), source(api.Volcano, 0, 1, sp(0)))
	picks := []quake.Pick{arrive(0, sp(8000)), arrive(1, sp(5000)), strength(0, sp(470, 480)), quiet(1, sp(3))}
	wantL, wantPicks := slices.Clone(l), slices.Clone(picks)
	m := exampleM()
	quake.Sources(m, cells[:3], sp(1, 4), sp(0))
	quake.CheckSources(m, l[:6])
	quake.Left(m, stations[:2], l[:6], picks[:3], 0)
	quake.Left(m, stations[:2], l[:6], picks[:3], 9)
	quake.Prove(m, stations[:2], l[2], picks[:3], 0)
	quake.Verify(m, stations[:2], l[2], picks[:3], 0, proof[:2])
	quake.Slides(m, l[:6], 1000)
	quake.Agree(m, stations[:2], l[:6], picks[:3])
	x, _ := quake.New(m, stations[:2], l[:6], 0)
	for _, p := range picks[:3] {
		x.Add(p)
	}
	x.Copy().Add(picks[3])
	if !slices.Equal(stations, []int{0, 4, 3}) || !slices.Equal(cells, []int{0, 2, 4, 1}) || !slices.Equal(proof, []int{0, 1, 0}) {
		t.Error(stations, cells, proof)
	}
	if !slices.Equal(l, wantL) || !slices.Equal(picks, wantPicks) {
		t.Error(l, picks)
	}
}

// R4: results share no memory with arguments, nor with later results.
func TestResultsAreNew(t *testing.T) {
	picks := []quake.Pick{arrive(0, sp(8000)), arrive(1, sp(5000))}
	l := exampleL()
	for range 2 {
		made, _ := quake.Sources(exampleM(), []int{0, 1, 2, 3, 4}, sp(5), sp(0, 10000))
		all, _ := quake.Left(exampleM(), exampleS(), l, nil, 0)
		slid, _ := quake.Slides(exampleM(), l, 0)
		proof, _, _ := quake.Prove(exampleM(), exampleS(), l[2], picks, 0)
		if !slices.Equal(l, exampleL()) || !slices.Equal(made, l) || !slices.Equal(all, l) || !slices.Equal(slid, l) || !slices.Equal(proof, []int{0, 1}) {
			t.Error(l, made, all, slid, proof)
		}
		clear(made)
		clear(all)
		clear(slid)
		clear(proof)
	}
}

// R3: nil and empty lists are the same.
func TestNilIsEmpty(t *testing.T) {
	for k, in := range []input{{m: exampleM()}, {exampleM(), []int{}, []api.Source{}, []quake.Pick{}, 0}} {
		left, e := quake.Left(in.m, in.stations, in.l, in.picks, 0)
		if e != api.OK || len(left) != 0 {
			t.Error("Left", k, left, e)
		}
		left, e = quake.Left(in.m, in.stations, exampleL(), in.picks, 0)
		if e != api.OK || !slices.Equal(left, exampleL()) {
			t.Error("Left", k, left, e)
		}
		if n, e := quake.Agree(in.m, in.stations, in.l, in.picks); e != api.OK || n != -1 {
			t.Error("Agree", k, n, e)
		}
		if proof, isStruck, e := quake.Prove(in.m, in.stations, exampleL()[0], in.picks, 0); e != api.OK || isStruck || len(proof) != 0 {
			t.Error("Prove", k, proof, isStruck, e)
		}
		if e := quake.Verify(in.m, in.stations, exampleL()[0], in.picks, 0, in.stations); e != api.ErrProof {
			t.Error("Verify", k, e)
		}
		if l, e := quake.Slides(in.m, in.l, 0); e != api.OK || len(l) != 0 {
			t.Error("Slides", k, l, e)
		}
	}
}

// Nothing depends on what was called before; the same call has the same result, also in several goroutines.
func TestSameCallSameResult(t *testing.T) {
	r := dice(61)
	in := randomInput(r)
	for range 20 {
		in.picks = append(in.picks, randomPick(r, in))
	}
	in.f = 8
	want := in.left()
	done := make(chan []api.Source)
	for range 4 {
		go func() { done <- in.left() }()
	}
	for range 4 {
		if left := <-done; !slices.Equal(left, want) {
			t.Error("another result")
		}
	}
}
