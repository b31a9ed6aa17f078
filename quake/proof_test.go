package quake_test

import (
	"math"
	"slices"
	"testing"

	"tidewall/api"
	"tidewall/quake"
)

// The examples of the chapter.
func TestProveExamples(t *testing.T) {
	first, second := arrive(0, sp(8000)), arrive(1, sp(5000))
	for k, x := range []struct {
		cell     int
		picks    []quake.Pick
		f        int
		want     []int
		isStruck bool
	}{
		{2, []quake.Pick{first, second}, 0, []int{0, 1}, true},
		{3, []quake.Pick{first, second}, 0, nil, false},
		{4, []quake.Pick{first, second, strength(0, sp(470, 480))}, 0, []int{2}, true},
		{4, []quake.Pick{first, second, strength(0, sp(470, 480))}, 1, nil, false},
		{2, []quake.Pick{first, second, strength(0, sp(0))}, 1, []int{0, 1, 2}, true},
		// Both struck it alone; the last one that can be left out is.
		{0, []quake.Pick{strength(0, sp(0)), strength(1, sp(0)), strength(0, sp(1))}, 0, []int{0}, true},
		{0, []quake.Pick{strength(0, sp(0)), first, strength(1, sp(0)), strength(0, sp(1))}, 1, []int{0, 2}, true},
		{0, nil, 0, nil, false},
	} {
		proof, isStruck, e := quake.Prove(exampleM(), exampleS(), exampleL()[x.cell], x.picks, x.f)
		if e != api.OK || isStruck != x.isStruck || !slices.Equal(proof, x.want) {
			t.Error(k, proof, isStruck, e)
		}
	}
}

// isProofByDefinition says whether at each time more than f picks of some numbers do not allow a source.
func isProofByDefinition(in input, x api.Source, numbers []int) bool {
	some := in
	some.picks = nil
	for _, i := range numbers {
		some.picks = append(some.picks, in.picks[i])
	}
	return x.Kind == api.Quake && slices.Min(wrongByDefinition(some, x)) > in.f
}

// proofByDefinition leaves out what can be left out, from the last pick to the first one.
func proofByDefinition(in input, x api.Source) []int {
	var proof []int
	for i := range in.picks {
		proof = append(proof, i)
	}
	if !isProofByDefinition(in, x, proof) {
		return nil
	}
	for _, i := range slices.Backward(slices.Clone(proof)) {
		others := slices.DeleteFunc(slices.Clone(proof), func(n int) bool { return n == i })
		if isProofByDefinition(in, x, others) {
			proof = others
		}
	}
	return proof
}

// P4.4, P4.10: proofs by definition. They are accepted, none of their picks can be left out, and a source has one if and only if it is struck.
func TestProveByDefinition(t *testing.T) {
	r := dice(20)
	struck, shorter := 0, 0
	for k := range 3000 {
		in := randomInput(r)
		for _, x := range in.l {
			one := in
			one.l = []api.Source{x}
			isLeft := len(one.left()) == 1
			proof, isStruck, e := quake.Prove(in.m, in.stations, x, in.picks, in.f)
			if e != api.OK || isStruck == isLeft || !slices.Equal(proof, proofByDefinition(in, x)) || isStruck != (len(proof) > 0) {
				t.Error(k, x, proof, isStruck, e)
			}
			if !isStruck {
				continue
			}
			struck++
			if len(proof) < len(in.picks) {
				shorter++
			}
			if e := quake.Verify(in.m, in.stations, x, in.picks, in.f, proof); e != api.OK {
				t.Error(k, x, proof, e)
			}
			for i := range proof {
				if e := quake.Verify(in.m, in.stations, x, in.picks, in.f, slices.Delete(slices.Clone(proof), i, i+1)); e != api.ErrProof {
					t.Error(k, x, proof, i, e)
				}
			}
		}
	}
	if struck < 1000 || shorter < 500 {
		t.Error("few cases:", struck, shorter)
	}
}

// P4.4, P4.10: of all lists of numbers Verify accepts those that are proofs; a source that is left has none, and one that is struck has the list of all picks.
func TestVerifyAllLists(t *testing.T) {
	r := dice(21)
	accepted := 0
	for k := range 500 {
		in := randomInput(r)
		for _, x := range in.l[:1] {
			_, isStruck, _ := quake.Prove(in.m, in.stations, x, in.picks, in.f)
			n := 0
			for set := range 1 << len(in.picks) {
				var numbers []int
				for i := range in.picks {
					if set>>i&1 == 1 {
						numbers = append(numbers, i)
					}
				}
				want := api.ErrProof
				if isProofByDefinition(in, x, numbers) {
					want = api.OK
					n++
				}
				e := quake.Verify(in.m, in.stations, x, in.picks, in.f, numbers)
				if e != want || len(numbers) == len(in.picks) && isStruck != (e == api.OK) {
					t.Error(k, x, numbers, e, want)
				}
			}
			if isStruck != (n > 0) {
				t.Error(k, x, n, isStruck)
			}
			accepted += n
		}
	}
	if accepted < 500 {
		t.Error("few lists were accepted:", accepted)
	}
}

// P4.4: the first number with an error, before what the proof is worth.
func TestVerifyErrors(t *testing.T) {
	picks := []quake.Pick{arrive(0, sp(8000)), arrive(1, sp(5000)), strength(0, sp(0))}
	for k, x := range []struct {
		proof []int
		want  api.Errno
	}{
		{[]int{0, 1}, api.OK}, {[]int{2}, api.OK}, {[]int{0, 2}, api.OK}, {[]int{0, 1, 2}, api.OK},
		{nil, api.ErrProof}, {[]int{}, api.ErrProof}, {[]int{0}, api.ErrProof}, {[]int{1}, api.ErrProof},
		{[]int{3}, api.ErrNone}, {[]int{-1}, api.ErrNone}, {[]int{math.MinInt}, api.ErrNone}, {[]int{math.MaxInt}, api.ErrNone}, {[]int{0, 3}, api.ErrNone}, {[]int{2, -1}, api.ErrNone}, {[]int{0, 3, 0}, api.ErrNone}, {[]int{0, 1, 2, 3}, api.ErrNone},
		{[]int{0, 0}, api.ErrArg}, {[]int{1, 0}, api.ErrArg}, {[]int{2, 1, 3}, api.ErrArg}, {[]int{0, 2, 2}, api.ErrArg}, {[]int{0, 2, 1}, api.ErrArg},
	} {
		if e := quake.Verify(exampleM(), exampleS(), exampleL()[2], picks, 0, x.proof); e != x.want {
			t.Error(k, x.proof, e)
		}
	}
	if e := quake.Verify(exampleM(), exampleS(), exampleL()[2], nil, 0, []int{0}); e != api.ErrNone {
		t.Error(e)
	}
}

// P4.4: nothing strikes what is not a quake.
func TestNoProofForOthers(t *testing.T) {
	picks := []quake.Pick{strength(0, sp(10000)), arrive(0, sp(0)), quiet(1, sp(1000000000))}
	for kind, want := range map[int]api.Errno{api.Quake: api.OK, api.Slide: api.ErrProof, api.Volcano: api.ErrProof} {
		x := source(kind, 2, 5, sp(20000, 30000))
		if e := quake.Verify(exampleM(), exampleS(), x, picks, 2, []int{0, 1, 2}); e != want {
			t.Error(kind, e)
		}
		if proof, isStruck, e := quake.Prove(exampleM(), exampleS(), x, picks, 2); e != api.OK || isStruck != (want == api.OK) || isStruck != (len(proof) == 3) {
			t.Error(kind, proof, isStruck, e)
		}
		if e := quake.Verify(exampleM(), exampleS(), x, picks, 2, []int{0, 3}); e != api.ErrNone {
			t.Error(kind, e)
		}
	}
}
