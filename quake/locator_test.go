package quake_test

import (
	"math"
	"slices"
	"testing"

	"tidewall/api"
	"tidewall/quake"
)

func locator(t *testing.T, in input) *quake.Locator {
	t.Helper()
	x, e := quake.New(in.m, in.stations, in.l, in.f)
	if e != api.OK || x == nil {
		t.Fatal(e)
	}
	return x
}

func exampleInput() input { return input{exampleM(), exampleS(), exampleL(), nil, 0} }

// The example of the chapter.
func TestLocatorExample(t *testing.T) {
	x := locator(t, exampleInput())
	if len(x.Picks()) != 0 || !slices.Equal(x.Left(), exampleL()) {
		t.Error(x.Picks(), x.Left())
	}
	picks := []quake.Pick{arrive(0, sp(8000)), arrive(1, sp(5000))}
	for i, want := range []int{0, 3} {
		if n, e := x.Add(picks[i]); e != api.OK || n != want {
			t.Error(i, n, e)
		}
		if !slices.Equal(x.Picks(), picks[:i+1]) {
			t.Error(i, x.Picks())
		}
	}
	if left := x.Left(); !slices.Equal(left, []api.Source{source(api.Quake, 3, 5, sp(3876, 5000)), source(api.Quake, 4, 5, sp(3585, 5000))}) {
		t.Error(left)
	}
}

// P4.7: after each pick a locator has what Left leaves with the picks so far, and Add says how many fewer sources these are.
func TestLocatorIsLeft(t *testing.T) {
	r := dice(40)
	struck := 0
	for k := range 1000 {
		in := randomInput(r)
		x := locator(t, in)
		picks := in.picks
		in.picks = nil
		for i, p := range picks {
			before := len(in.left())
			in.picks = picks[:i+1]
			n, e := x.Add(p)
			if left := in.left(); e != api.OK || n != before-len(left) || !slices.Equal(x.Left(), left) || !slices.Equal(x.Picks(), in.picks) {
				t.Error(k, i, n, e, x.Left(), left)
			}
			struck += n
		}
	}
	if struck < 300 {
		t.Error("few cases:", struck)
	}
}

// P4.7: the picks that a locator returns are those that it got, also in what does not matter to their kind.
func TestPicksAreAsGiven(t *testing.T) {
	x := locator(t, exampleInput())
	picks := []quake.Pick{{Kind: quake.Arrive, Station: 1, Time: sp(1, 9), Level: sp(7, 3)}, {Kind: quake.Strength, Time: sp(math.MaxInt, math.MinInt), Level: sp(-1, 600)}, {Kind: quake.Quiet, Time: sp(0), Level: sp(-99999)}}
	for i, p := range picks {
		if _, e := x.Add(p); e != api.OK || !slices.Equal(x.Picks(), picks[:i+1]) {
			t.Error(i, e, x.Picks())
		}
	}
}

// P4.7, R2: a pick with an error changes nothing.
func TestAddErrors(t *testing.T) {
	in := exampleInput()
	in.f = 1
	x := locator(t, in)
	x.Add(strength(0, sp(480)))
	left, picks := x.Left(), x.Picks()
	for k, bad := range badPicks() {
		n, e := x.Add(bad.p)
		expect(t, k, bad.e, call{"Add", e, n})
		if !slices.Equal(x.Left(), left) || !slices.Equal(x.Picks(), picks) {
			t.Error(k, x.Left(), x.Picks())
		}
	}
	if n, e := x.Add(strength(1, sp(0))); e != api.OK || n != 3 || len(x.Picks()) != 2 || len(left) != 5 {
		t.Error(n, e, x.Picks())
	}
}

// P4.7, R7: a locator has room for 64 picks; there is no room for another one, whatever it is.
func TestAddMany(t *testing.T) {
	x := locator(t, exampleInput())
	p := arrive(1, sp(5000))
	for i := range 64 {
		if _, e := x.Add(p); e != api.OK || len(x.Picks()) != i+1 {
			t.Error(i, e)
		}
	}
	left := x.Left()
	for k, another := range []quake.Pick{p, {}, strength(2, sp(1, 0))} {
		n, e := x.Add(another)
		expect(t, k, api.ErrMany, call{"Add", e, n})
		if !slices.Equal(x.Picks(), slices.Repeat([]quake.Pick{p}, 64)) || !slices.Equal(x.Left(), left) {
			t.Error(k, x.Picks())
		}
	}
}

// P4.7: what is added to a copy is not added to the other locator.
func TestCopyIsIndependent(t *testing.T) {
	r := dice(41)
	for k := range 300 {
		in := randomInput(r)
		if len(in.picks) == 0 {
			continue
		}
		x := locator(t, in)
		first := r.IntN(len(in.picks))
		for _, p := range in.picks[:first] {
			x.Add(p)
		}
		y, z := x.Copy(), x.Copy()
		for _, p := range in.picks[first:] {
			x.Add(p)
		}
		for _, p := range slices.Backward(in.picks[first:]) {
			y.Add(p)
		}
		some := in
		some.picks = in.picks[:first]
		if !slices.Equal(x.Left(), in.left()) || !slices.Equal(y.Left(), in.left()) || !slices.Equal(z.Left(), some.left()) {
			t.Error(k, x.Left(), y.Left(), z.Left())
		}
		backward := slices.Clone(in.picks[first:])
		slices.Reverse(backward)
		if !slices.Equal(x.Picks(), in.picks) || !slices.Equal(y.Picks(), append(slices.Clone(some.picks), backward...)) || !slices.Equal(z.Picks(), some.picks) {
			t.Error(k, x.Picks(), y.Picks(), z.Picks())
		}
	}
}

// R3: a locator that New did not make.
func TestNoLocator(t *testing.T) {
	for k, x := range []*quake.Locator{nil, {}, new(quake.Locator), (*quake.Locator)(nil).Copy(), new(quake.Locator).Copy()} {
		for _, p := range []quake.Pick{arrive(0, sp(8000)), {}} {
			n, e := x.Add(p)
			expect(t, k, api.ErrNil, call{"Add", e, n})
		}
		if x.Left() != nil || x.Picks() != nil || x.Copy() != nil {
			t.Error(k, x.Left(), x.Picks(), x.Copy())
		}
	}
}

// P4.7: locators without stations or sources.
func TestEmptyLocators(t *testing.T) {
	for k, stations := range [][]int{nil, {}} {
		x := locator(t, input{exampleM(), stations, exampleL(), nil, 8})
		n, e := x.Add(arrive(0, sp(0)))
		expect(t, k, api.ErrNone, call{"Add", e, n})
		if !slices.Equal(x.Left(), exampleL()) || !slices.Equal(x.Copy().Left(), exampleL()) {
			t.Error(k, x.Left())
		}
	}
	for k, l := range [][]api.Source{nil, {}} {
		x := locator(t, input{exampleM(), exampleS(), l, nil, 0})
		if n, e := x.Add(arrive(0, sp(0))); e != api.OK || n != 0 || len(x.Left()) != 0 || len(x.Picks()) != 1 {
			t.Error(k, n, e, x.Left())
		}
	}
}

// R4: a locator keeps none of the memory that it got or gave away.
func TestLocatorMemory(t *testing.T) {
	stations, l := []int{0, 4, 2}, append(exampleL(), exampleL()...)
	x, e := quake.New(exampleM(), stations[:2], l[:5], 0)
	if e != api.OK {
		t.Fatal(e)
	}
	picks := []quake.Pick{arrive(0, sp(8000)), arrive(1, sp(5000))}
	x.Add(picks[0])
	x.Add(picks[1])
	want := x.Left()
	y := x.Copy()
	for range 2 {
		for i := range l {
			l[i] = api.Source{}
		}
		clear(stations)
		left, given := x.Left(), x.Picks()
		for i := range left {
			left[i] = api.Source{}
		}
		clear(given)
		_ = append(given[:0], quake.Pick{}, quake.Pick{}, quake.Pick{})
		if !slices.Equal(x.Left(), want) || !slices.Equal(x.Picks(), picks) || !slices.Equal(y.Left(), want) || !slices.Equal(y.Picks(), picks) {
			t.Error(x.Left(), x.Picks())
		}
	}
}

// A locator that is assigned as a value does not write into the picks of the other one.
func TestAssignedLocators(t *testing.T) {
	x := locator(t, exampleInput())
	for range 5 {
		x.Add(arrive(0, sp(8000)))
	}
	y := *x
	x.Add(arrive(0, sp(8001)))
	y.Add(arrive(0, sp(8002)))
	if a, b := x.Picks(), y.Picks(); len(a) != 6 || len(b) != 6 || a[5] != arrive(0, sp(8001)) || b[5] != arrive(0, sp(8002)) {
		t.Error(a, b)
	}
}
