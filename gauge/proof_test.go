package gauge_test

import (
	"slices"
	"testing"

	"tidewall/api"
	"tidewall/gauge"
)

// exampleReadings are those of the last examples of the chapter.
func exampleReadings() []gauge.Reading {
	return []gauge.Reading{came(0, sp(20000)), came(1, sp(200000)), came(1, sp(120963))}
}

// The examples of the chapter, and proofs by hand.
func TestProveExamples(t *testing.T) {
	one, l := []api.Source{exampleX()}, exampleReadings()
	wrong := height(0, 1000, sp(0))
	for k, x := range []struct {
		c       gauge.Case
		i       int
		want    []int
		isFalse bool
	}{
		{gauge.Case{Sources: one, Readings: l, False: 1}, 1, []int{0, 2}, true},
		{gauge.Case{Sources: one, Readings: l, False: 1}, 0, nil, false},
		{gauge.Case{Sources: one, Readings: l, False: 1}, 2, nil, false},
		{gauge.Case{Sources: one, Readings: l, False: 2}, 1, nil, false},
		// Either of two others proves it, and the last one that can be left out is.
		{gauge.Case{Sources: one, Readings: l}, 1, []int{0}, true},
		{gauge.Case{Sources: one, Readings: l}, 0, []int{1}, true},
		{gauge.Case{Sources: one, Readings: l}, 2, []int{1}, true},
		// No wave is possible too.
		{gauge.Case{Sources: one, Quiet: true, Readings: l, False: 1}, 1, []int{0, 2}, true},
		{gauge.Case{Sources: one, Quiet: true, Readings: append(l[:3:3], calm(0, sp(20000)))}, 3, []int{0, 1}, true},
		{gauge.Case{Sources: one, Quiet: true, Readings: []gauge.Reading{height(0, 0, sp(0)), wrong, came(0, sp(20000))}}, 0, []int{1}, true},
		// What allows nothing that is possible needs no other reading.
		{gauge.Case{Sources: one, Quiet: true, Readings: append(l[:3:3], wrong), False: 8}, 3, nil, true},
		{gauge.Case{Sources: one, Quiet: true, Readings: []gauge.Reading{wrong}, False: 8}, 0, nil, true},
		{gauge.Case{Readings: l, False: 8}, 1, nil, true},
		{gauge.Case{Quiet: true, Readings: l, False: 8}, 1, nil, true},
		{gauge.Case{Quiet: true, Readings: []gauge.Reading{calm(0, sp(0))}}, 0, nil, false},
	} {
		proof, isFalse, e := gauge.Prove(exampleS(), x.c, x.i)
		if e != api.OK || isFalse != x.isFalse || !slices.Equal(proof, x.want) {
			t.Error(k, proof, isFalse, e)
		}
	}
}

// isProofByDefinition says whether, of each possibility that a reading allows, more readings of a list than may be false do not allow it.
func isProofByDefinition(c gauge.Case, all []possible, i int, numbers []int) bool {
	for _, p := range all {
		n := 0
		for _, number := range numbers {
			if p.wrong[number] {
				n++
			}
		}
		if !p.wrong[i] && n <= c.False {
			return false
		}
	}
	return true
}

// othersThan are the numbers of all readings but one.
func othersThan(c gauge.Case, i int) []int {
	var l []int
	for n := range c.Readings {
		if n != i {
			l = append(l, n)
		}
	}
	return l
}

func without(l []int, number int) []int {
	return slices.DeleteFunc(slices.Clone(l), func(n int) bool { return n == number })
}

// proofByDefinition leaves out what can be left out, from the last reading to the first one.
func proofByDefinition(c gauge.Case, all []possible, i int) ([]int, bool) {
	proof := othersThan(c, i)
	if !isProofByDefinition(c, all, i, proof) {
		return nil, false
	}
	for _, n := range slices.Backward(othersThan(c, i)) {
		if isProofByDefinition(c, all, i, without(proof, n)) {
			proof = without(proof, n)
		}
	}
	return proof, true
}

// P6.5, P6.10: proofs by definition. A reading has one exactly if it is false for sure; then all other readings are one; and none of the readings of the proof that is found can be left out.
func TestProveByDefinition(t *testing.T) {
	r := dice(30)
	var proofs, shorter, longer int
	for k := range 1000 {
		s, c := randomCase(r)
		all := possibleByDefinition(s, c)
		judged, e := gauge.Judge(s, c)
		if e != api.OK {
			t.Fatal(k, e)
		}
		for i := range c.Readings {
			want, wantFalse := proofByDefinition(c, all, i)
			proof, isFalse, e := gauge.Prove(s, c, i)
			if e != api.OK || isFalse != wantFalse || !slices.Equal(proof, want) || isFalse != (judged[i] == gauge.False) {
				t.Error(k, s, c, i, proof, isFalse, e, want)
			}
			others := gauge.Verify(s, c, i, othersThan(c, i))
			if isFalse && others != api.OK || !isFalse && others != api.ErrProof {
				t.Error(k, i, isFalse, others)
			}
			if !isFalse {
				continue
			}
			if e := gauge.Verify(s, c, i, proof); e != api.OK {
				t.Error(k, i, proof, e)
			}
			for _, n := range proof {
				if e := gauge.Verify(s, c, i, without(proof, n)); e != api.ErrProof {
					t.Error(k, i, proof, n, e)
				}
			}
			proofs++
			if len(proof) < len(c.Readings)-1 {
				shorter++
			}
			if len(proof) > 1 {
				longer++
			}
		}
	}
	if proofs < 700 || min(shorter, longer) < 200 {
		t.Error("few cases:", proofs, shorter, longer)
	}
}

// P6.5, P6.10: of all lists of other readings Verify accepts those that are proofs; there are some exactly if the reading is false for sure.
func TestVerifyAllLists(t *testing.T) {
	r := dice(31)
	accepted, refused := 0, 0
	for k := range 150 {
		s, c := randomCase(r)
		all := possibleByDefinition(s, c)
		judged, _ := gauge.Judge(s, c)
		for i := range c.Readings[:min(2, len(c.Readings))] {
			n := 0
			for set := range 1 << len(c.Readings) {
				var numbers []int
				for number := range c.Readings {
					if set>>number&1 == 1 {
						numbers = append(numbers, number)
					}
				}
				want := api.ErrProof
				switch {
				case slices.Contains(numbers, i):
					want = api.ErrArg
				case isProofByDefinition(c, all, i, numbers):
					want = api.OK
					n++
				default:
					refused++
				}
				if e := gauge.Verify(s, c, i, numbers); e != want {
					t.Error(k, i, numbers, e, want)
				}
			}
			if judged[i] == gauge.False != (n > 0) {
				t.Error(k, i, n, judged)
			}
			accepted += n
		}
	}
	if min(accepted, refused) < 300 {
		t.Error("few lists:", accepted, refused)
	}
}

// P6.5: there is no reading i, before what is wrong with a proof.
func TestNumbersOfReadings(t *testing.T) {
	c := gauge.Case{Sources: []api.Source{exampleX()}, Readings: exampleReadings(), False: 1}
	for _, i := range []int{-1, 3, 40, 64, -1 << 63, 1<<63 - 1} {
		for _, proof := range [][]int{nil, {0, 2}, {-1}, {1, 1}, {i}} {
			expect(t, i, api.ErrNone, callProve(exampleS(), c, i), callVerify(exampleS(), c, i, proof))
		}
	}
	expect(t, "none", api.ErrNone, callProve(exampleS(), gauge.Case{}, 0), callVerify(exampleS(), gauge.Case{}, 0, nil))
}

// P6.5: the first number with an error, before what the proof is worth.
func TestVerifyErrors(t *testing.T) {
	wrong := height(0, 1000, sp(0))
	c := gauge.Case{Sources: []api.Source{exampleX()}, Readings: append(exampleReadings(), wrong, wrong), False: 1}
	for k, x := range []struct {
		i     int
		proof []int
		want  api.Errno
	}{
		{1, []int{0, 2}, api.OK}, {1, []int{3, 4}, api.OK}, {1, []int{0, 2, 3, 4}, api.OK}, {1, []int{0, 3}, api.OK},
		{1, nil, api.ErrProof}, {1, []int{}, api.ErrProof}, {1, []int{0}, api.ErrProof}, {1, []int{3}, api.ErrProof},
		{3, nil, api.OK}, {3, []int{}, api.OK}, {3, []int{0, 1, 2, 4}, api.OK},
		{1, []int{5}, api.ErrNone}, {1, []int{-1}, api.ErrNone}, {1, []int{-1 << 63}, api.ErrNone}, {1, []int{1<<63 - 1}, api.ErrNone}, {1, []int{64}, api.ErrNone}, {1, []int{0, 5}, api.ErrNone}, {1, []int{0, 2, -1}, api.ErrNone}, {1, []int{0, 5, 1}, api.ErrNone}, {1, []int{0, 5, 0}, api.ErrNone},
		{1, []int{1}, api.ErrArg}, {1, []int{0, 1}, api.ErrArg}, {1, []int{0, 1, 2}, api.ErrArg}, {1, []int{0, 2, 1}, api.ErrArg}, {1, []int{1, 5}, api.ErrArg}, {3, []int{3}, api.ErrArg},
		{1, []int{0, 0}, api.ErrArg}, {1, []int{2, 0}, api.ErrArg}, {1, []int{0, 2, 2}, api.ErrArg}, {1, []int{3, 4, 3, 5}, api.ErrArg}, {1, []int{2, 0, 5}, api.ErrArg},
	} {
		if e := gauge.Verify(exampleS(), c, x.i, x.proof); e != x.want {
			t.Error(k, x, e)
		}
	}
}
