package grid_test

import (
	"math"
	"slices"
	"testing"

	"tidewall/api"
	"tidewall/grid"
)

// P0 and R5: whatever integers they are given, all functions end without a panic, and never take what is out of range for valid.
func TestAnyIntegers(t *testing.T) {
	r := dice(12)
	odd := []int{math.MinInt, math.MinInt + 1, -1 << 32, -api.MaxGround - 1, -api.MaxGround, -1, 0, 1, 2, 3, api.MaxSide, api.MaxSide + 1, api.MaxGround, api.MaxGround + 1, 1 << 32, 1<<32 + 1, 1 << 62, math.MaxInt - 1, math.MaxInt}
	pick := func() int { return odd[r.IntN(len(odd))] }
	valid := 0
	for range 20000 {
		g := api.Grid{Wide: pick(), High: pick(), Size: pick()}
		if r.IntN(2) == 0 {
			g = api.Grid{Wide: 1 + r.IntN(2), High: 1 + r.IntN(2), Size: 1}
		}
		for range r.IntN(5) {
			g.Ground = append(g.Ground, sp(pick(), pick()))
		}
		e := grid.Check(g)
		if e == api.OK {
			valid++
		}
		cell, step := pick(), pick()
		_, near := grid.Near(g, cell)
		_, sills := grid.Sills(g, []int{cell})
		_, ponds := grid.Ponds(g, []int{cell})
		_, _, flood := grid.Flood(g, []int{0}, sp(cell, step))
		_, _, narrow := grid.Narrow(g, g)
		_, _, measure := grid.Measure(g, []grid.Sounding{sounding(cell, pick(), step)})
		tight, tighten := grid.Tighten(g, step)
		_, write := grid.Write(g)
		if e != api.OK {
			for k, f := range []api.Errno{near, sills, ponds, flood, narrow, measure, tighten, write} {
				if f != e {
					t.Error(k, g, f, e)
				}
			}
			continue
		}
		none := cell < 0 || cell >= len(g.Ground)
		if (near == api.ErrNone) != none || (sills == api.ErrNone) != none || (ponds == api.ErrNone) != none || (measure == api.ErrNone) != none {
			t.Error(g, cell, near, sills, ponds, measure)
		}
		if (flood == api.ErrRange) != (cell > step || cell < -api.MaxLevel || step > api.MaxLevel) {
			t.Error(g, cell, step, flood)
		}
		if (tighten == api.ErrRange) != (step < 0 || step > 2*api.MaxGround) || tighten == api.OK && grid.Check(tight) != api.OK {
			t.Error(g, step, tighten)
		}
		if narrow != api.OK || write != api.OK {
			t.Error(g, narrow, write)
		}
	}
	if valid < 20 {
		t.Error("few of the grids were valid:", valid)
	}
}

// R4: no call changes its arguments.
func TestArgumentsStay(t *testing.T) {
	a, b := exampleA(), row(sp(-500), sp(0, 12), sp(-30, 0), sp(5))
	sea := []int{3, 0, 3}
	l := []grid.Sounding{sounding(1, 5, 10), sounding(1, 30, 20)}
	contrary := []grid.Sounding{sounding(1, 5, 10), sounding(2, -40, 5)}
	grid.Near(a, 1)
	grid.Sills(a, sea)
	grid.Flood(a, sea, sp(15, 25))
	grid.Ponds(a, sea)
	grid.Narrow(a, b)
	grid.Narrow(a, row(sp(-500), sp(0, 9), sp(0), sp(5)))
	grid.Measure(a, l)
	grid.Measure(a, contrary)
	grid.Tighten(a, 515)
	grid.Tighten(a, 500)
	grid.Write(a)
	if !same(a, exampleA()) || !same(b, row(sp(-500), sp(0, 12), sp(-30, 0), sp(5))) || !slices.Equal(sea, []int{3, 0, 3}) {
		t.Error(a, b, sea)
	}
	if !slices.Equal(l, []grid.Sounding{sounding(1, 5, 10), sounding(1, 30, 20)}) || !slices.Equal(contrary, []grid.Sounding{sounding(1, 5, 10), sounding(2, -40, 5)}) {
		t.Error(l, contrary)
	}
}

// R4: results share no memory with arguments, nor with each other, also where nothing had to be narrowed, or with room that is left behind a list.
func TestResultsAreNew(t *testing.T) {
	backing := append(exampleA().Ground, sp(7), sp(7))
	a := api.Grid{Wide: 4, High: 1, Size: 100, Ground: backing[:4]}
	b := exampleA()
	narrow, _, _ := grid.Narrow(a, b)
	measured, _, _ := grid.Measure(a, nil)
	tight, _ := grid.Tighten(a, 2*api.MaxGround)
	results := []api.Grid{narrow, measured, tight}
	for k, g := range results {
		if !same(g, exampleA()) {
			t.Error(k, g)
		}
		g.Ground[0] = sp(k)
		_ = append(g.Ground, sp(k))
	}
	if !same(a, exampleA()) || !same(b, exampleA()) || backing[4] != sp(7) {
		t.Error(a, b, backing)
	}
	sills, _ := grid.Sills(a, []int{0, 1, 2, 3})
	sills[1] = sp(99)
	sure, may, _ := grid.Flood(a, []int{0}, sp(41))
	for i := range sure {
		sure[i] = false
	}
	_ = append(sure, false, false, false, false, false)
	if !slices.Equal(may, []bool{true, true, true, true}) || !same(a, exampleA()) {
		t.Error(may, a)
	}
	read, _ := grid.Read(textA)
	read.Ground[0] = sp(99)
	if again, _ := grid.Read(textA); !same(again, exampleA()) {
		t.Error(again)
	}
}

// R3: nil and empty lists are the same.
func TestNilIsEmpty(t *testing.T) {
	for k, sea := range [][]int{nil, {}} {
		if _, e := grid.Sills(exampleA(), sea); e != api.ErrEmpty {
			t.Error(k, e)
		}
		if _, e := grid.Ponds(exampleA(), sea); e != api.ErrEmpty {
			t.Error(k, e)
		}
		if _, _, e := grid.Flood(exampleA(), sea, sp(0)); e != api.ErrEmpty {
			t.Error(k, e)
		}
	}
	for k, l := range [][]grid.Sounding{nil, {}} {
		if g, at, e := grid.Measure(exampleA(), l); e != api.OK || at != 0 || !same(g, exampleA()) {
			t.Error(k, g, at, e)
		}
	}
	for k, l := range [][]api.Span{nil, {}} {
		if e := grid.Check(api.Grid{Wide: 1, High: 1, Size: 1, Ground: l}); e != api.ErrShape {
			t.Error(k, e)
		}
	}
}

// P0: nothing depends on what was called before; the same call has the same result, also in several goroutines.
func TestSameCallSameResult(t *testing.T) {
	g := randomGrid(dice(13), api.MaxSide, api.MaxSide, 1000, 300)
	want, _ := grid.Sills(g, []int{5, 300})
	done := make(chan []api.Span)
	for range 4 {
		go func() {
			l, _ := grid.Sills(g, []int{300, 5})
			done <- l
		}()
	}
	for range 4 {
		if l := <-done; !slices.Equal(l, want) {
			t.Error("another result")
		}
	}
}
