package tide_test

import (
	"math"
	"slices"
	"testing"

	"tidewall/api"
	"tidewall/tide"
)

// P0 and R5: whatever integers they are given, all functions end without a panic, and never take what is out of range for valid.
func TestAnyIntegers(t *testing.T) {
	r := dice(30)
	odd := []int{math.MinInt, math.MinInt + 1, -1<<40 - 1, -1 << 40, -1 << 32, -20001, -10001, -10000, -1, 0, 0, 1, 1, 2, 3599, 3600, 10000, 10001, 20001, 1 << 32, api.MaxTime, api.MaxTime + 1, 1 << 40, 1<<40 + 1, 1 << 62, math.MaxInt - 1, math.MaxInt}
	pick := func() int { return odd[r.IntN(len(odd))] }
	isFrom := func(n, least, greatest int) bool { return n >= least && n <= greatest }
	valid := 0
	for range 50000 {
		m := tide.Model{Mean: pick()}
		if r.IntN(2) == 0 {
			m.Mean = r.IntN(100)
		}
		isValid := isFrom(m.Mean, -10000, 10000)
		for range r.IntN(3) {
			p := tide.Part{Amp: pick(), Period: pick(), Phase: pick()}
			isValid = isValid && isFrom(p.Amp, 0, 1000) && isFrom(p.Period, 1, 1000000000) && isFrom(p.Phase, 0, 3599)
			m.Parts = append(m.Parts, p)
		}
		times, step, level := sp(pick(), pick()), pick(), pick()
		want := api.OK
		if !isValid {
			want = api.ErrRange
		} else {
			valid++
		}
		_, all := tide.Range(m)
		_, join := tide.Join(m, tide.Model{})
		if e := tide.Check(m); e != want || all != want || join != want {
			t.Error(m, e, all, join)
		}
		if times.Lo > times.Hi || times.Lo < 0 || times.Hi > 1000000000 {
			want = api.ErrRange
		}
		if _, e := tide.Level(m, times); e != want {
			t.Error("Level", m, times, e)
		}
		if step < 1 {
			want = api.ErrRange
		}
		if want == api.OK && len(piecesUpTo(times, step, 10001)) > 10000 {
			want = api.ErrMany
		}
		if _, e := tide.Peak(m, times, step); e != want {
			t.Error("Peak", m, times, step, e)
		}
		if want == api.OK && !isFrom(level, -20000, 20000) {
			want = api.ErrRange
		}
		if _, e := tide.Windows(m, times, step, level); e != want {
			t.Error("Windows", m, times, step, level, e)
		}
		if _, e := tide.Cos(times); (e == api.OK) != (times.Lo <= times.Hi && times.Lo >= -1<<40 && times.Hi <= 1<<40) {
			t.Error("Cos", times, e)
		}
	}
	if valid < 1000 {
		t.Error("few of the models were valid:", valid)
	}
}

// piecesUpTo gives the pieces of valid times, at most so many.
func piecesUpTo(t api.Span, step, most int) []api.Span {
	if step >= t.Hi-t.Lo {
		return []api.Span{t}
	}
	return piecesOf(sp(t.Lo, min(t.Hi, t.Lo+step*most)), step)
}

// R4: no call changes its arguments, nor what lies behind them.
func TestArgumentsStay(t *testing.T) {
	backing := append(exampleM().Parts, tide.Part{Amp: 7, Period: 7, Phase: 7}, tide.Part{Amp: 8, Period: 8, Phase: 8})
	a, b := tide.Model{Mean: 10, Parts: backing[:2]}, exampleM()
	tide.Check(a)
	tide.Level(a, sp(0, hour))
	tide.Range(a)
	tide.Peak(a, sp(0, hour), 1000)
	tide.Windows(a, sp(0, hour), 1000, 20)
	tide.Join(a, b)
	tide.Join(a, a)
	tide.Join(a, tide.Model{})
	if !same(a, exampleM()) || !same(b, exampleM()) || backing[2].Amp != 7 || backing[3].Amp != 8 {
		t.Error(a, b, backing)
	}
}

// R4: results share no memory with arguments, nor with later results.
func TestResultsAreNew(t *testing.T) {
	backing := append(exampleM().Parts, tide.Part{Amp: 7, Period: 7, Phase: 7})
	a := tide.Model{Mean: 10, Parts: backing[:2]}
	b := exampleM()
	for k, pair := range [][2]tide.Model{{a, b}, {a, {}}, {{}, a}, {a, a}} {
		m, e := tide.Join(pair[0], pair[1])
		if e != api.OK {
			t.Fatal(k, e)
		}
		for i := range m.Parts {
			m.Parts[i] = tide.Part{Amp: 99, Period: 99, Phase: 99}
		}
		_ = append(m.Parts, tide.Part{Amp: 98})
		if !same(a, exampleM()) || !same(b, exampleM()) || backing[2].Amp != 7 {
			t.Error(k, a, b, backing)
		}
	}
	windows, _ := tide.Windows(a, sp(0, 2*hour), 600000, 20)
	want := slices.Clone(windows)
	again, _ := tide.Windows(a, sp(0, 2*hour), 600000, 20)
	for i := range windows {
		windows[i] = sp(99)
	}
	if len(want) == 0 || !slices.Equal(again, want) {
		t.Error(again, want)
	}
}

// R3: nil and empty lists are the same.
func TestNilIsEmpty(t *testing.T) {
	for k, parts := range [][]tide.Part{nil, {}} {
		m := tide.Model{Mean: 5, Parts: parts}
		if e := tide.Check(m); e != api.OK {
			t.Error(k, e)
		}
		if s, e := tide.Level(m, sp(0, hour)); e != api.OK || s != sp(5) {
			t.Error(k, s, e)
		}
		if s, e := tide.Range(m); e != api.OK || s != sp(5) {
			t.Error(k, s, e)
		}
		if s, e := tide.Peak(m, sp(0, hour), hour); e != api.OK || s != sp(5) {
			t.Error(k, s, e)
		}
		if l, e := tide.Windows(m, sp(0, hour), 1000, 5); e != api.OK || !slices.Equal(l, []api.Span{sp(0, hour)}) {
			t.Error(k, l, e)
		}
		if l, e := tide.Windows(m, sp(0, hour), 1000, 4); e != api.OK || len(l) != 0 {
			t.Error(k, l, e)
		}
		if joined, e := tide.Join(m, exampleM()); e != api.OK || joined.Mean != 15 || !slices.Equal(joined.Parts, exampleM().Parts) {
			t.Error(k, joined, e)
		}
	}
}

// P0: nothing depends on what was called before; the same call has the same result, also in several goroutines.
func TestSameCallSameResult(t *testing.T) {
	m := randomModel(dice(31), tide.MaxParts)
	want, _ := tide.Peak(m, sp(0, hour), 1000)
	done := make(chan api.Span)
	for range 4 {
		go func() {
			s, _ := tide.Peak(m, sp(0, hour), 1000)
			done <- s
		}()
	}
	for range 4 {
		if s := <-done; s != want {
			t.Error("another result", s, want)
		}
	}
}
