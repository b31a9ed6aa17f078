package quake

import (
	"slices"

	"tidewall/api"
)

// Prove returns the numbers of picks that prove that a source is struck, and whether it is.
func Prove(m Model, stations []int, s api.Source, picks []Pick, f int) ([]int, bool, api.Errno) {
	one := search{m, stations, []api.Source{s}, f}
	if e := one.check(picks); e != api.OK {
		return nil, false, e
	}
	isProof := one.prover(s, picks)
	var proof []int
	for i := range picks {
		proof = append(proof, i)
	}
	if !isProof(proof) {
		return nil, false, api.OK
	}
	for i := len(picks) - 1; i >= 0; i-- {
		others := slices.Delete(slices.Clone(proof), i, i+1)
		if isProof(others) {
			proof = others
		}
	}
	return proof, true, api.OK
}

// Verify checks a proof.
func Verify(m Model, stations []int, s api.Source, picks []Pick, f int, proof []int) api.Errno {
	one := search{m, stations, []api.Source{s}, f}
	if e := one.check(picks); e != api.OK {
		return e
	}
	if e := checkAscending(proof, len(picks)); e != api.OK {
		return e
	}
	if !one.prover(s, picks)(proof) {
		return api.ErrProof
	}
	return api.OK
}

// prover returns a function that says whether the picks of some numbers prove that a source is struck. What is not a quake never is.
func (s search) prover(x api.Source, picks []Pick) func(numbers []int) bool {
	allowed := s.allowed(x, picks)
	return func(numbers []int) bool {
		var some []api.Span
		for _, i := range numbers {
			some = append(some, allowed[i])
		}
		return x.Kind == api.Quake && leastWrong(x.Time, some) > s.most
	}
}
