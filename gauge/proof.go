package gauge

import "tidewall/api"

// Prove returns a proof that a reading is false.
func Prove(s Site, c Case, i int) ([]int, bool, api.Errno) {
	q, e := inquireOf(s, c, i)
	if e != api.OK {
		return nil, false, e
	}
	isProof := q.prover(i)
	var proof set
	for n := range c.Readings {
		if n != i {
			proof = proof.with(n)
		}
	}
	if !isProof(proof) {
		return nil, false, api.OK
	}
	for n := len(c.Readings) - 1; n >= 0; n-- {
		if isProof(proof.without(n)) {
			proof = proof.without(n)
		}
	}
	var numbers []int
	for n := range c.Readings {
		if proof.has(n) {
			numbers = append(numbers, n)
		}
	}
	return numbers, true, api.OK
}

// Verify checks a proof.
func Verify(s Site, c Case, i int, proof []int) api.Errno {
	q, e := inquireOf(s, c, i)
	if e != api.OK {
		return e
	}
	var others set
	for k, n := range proof {
		if !within(n, 0, len(c.Readings)-1) {
			return api.ErrNone
		}
		if n == i || k > 0 && n <= proof[k-1] {
			return api.ErrArg
		}
		others = others.with(n)
	}
	if !q.prover(i)(others) {
		return api.ErrProof
	}
	return api.OK
}

// inquireOf returns the error of a site, of a case, or of the number of a reading.
func inquireOf(s Site, c Case, i int) (inquiry, api.Errno) {
	q, e := inquire(s, c)
	if e != api.OK {
		return inquiry{}, e
	}
	if !within(i, 0, len(c.Readings)-1) {
		return inquiry{}, api.ErrNone
	}
	return q, api.OK
}

// prover returns a function that says whether other readings prove that a reading is false: too many of them object to each possibility that it allows.
func (q inquiry) prover(i int) func(others set) bool {
	var allowed []set
	for wrong := range q.possibilities() {
		if !wrong.has(i) {
			allowed = append(allowed, wrong)
		}
	}
	return func(others set) bool {
		for _, wrong := range allowed {
			if q.remains(wrong & others) {
				return false
			}
		}
		return true
	}
}
