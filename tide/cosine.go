package tide

import (
	"math/bits"

	"tidewall/api"
)

// Numbers of the series are counted in units of 2^-binaryPlaces.
const (
	binaryPlaces = 60
	one          = 1 << binaryPlaces
	arc          = 2012227627243645 // a tenth of a degree, π/1800, rounded
)

// Cos returns bounds of the cosine of angles.
func Cos(a api.Span) (api.Span, api.Errno) {
	if !isSpanWithin(a, -MaxAngle, MaxAngle) {
		return api.Span{}, api.ErrRange
	}
	return cosines(a).Span, api.OK
}

// cosines returns the cosine bounds of a valid span of any angles.
func cosines(a api.Span) bounds {
	b := cosine(a.Lo)
	if a.Lo == a.Hi {
		return b
	}
	// Between its ends a cosine is beyond those of both only where it turns.
	b = b.with(cosine(a.Hi))
	if hasAngle(a, 0) {
		b.Hi = Unit
	}
	if hasAngle(a, Turn/2) {
		b.Lo = -Unit
	}
	return b
}

// hasAngle says whether a span has an angle, or one that differs from it by whole turns.
func hasAngle(a api.Span, angle int) bool {
	return a.Lo+modulo(angle-a.Lo, Turn) <= a.Hi
}

// cosine returns the cosine bounds of a single angle, from those of one in the first quarter of a turn.
func cosine(angle int) bounds {
	angle = modulo(angle, Turn)
	if angle > Turn/2 {
		angle = Turn - angle
	}
	if angle > Turn/4 {
		return cosineOfQuarter(Turn/2 - angle).negative()
	}
	return cosineOfQuarter(angle)
}

// cosineOfQuarter takes an angle from 0 to a quarter of a turn.
func cosineOfQuarter(angle int) bounds {
	switch angle {
	case 0:
		return exactly(Unit)
	case Turn / 6:
		return exactly(Unit / 2)
	case Turn / 4:
		return exactly(0)
	}
	whole := wholeCosine(angle)
	return bounds{api.Span{Lo: whole, Hi: whole + 1}}
}

// wholeCosine returns 2^16 times the cosine of an angle, rounded down, for one in the first quarter of a turn where this is no integer.
// At none of these it comes nearer to an integer than by 2^-11, while arc and all the terms together are wrong by less than 2^-34 of it: so they do not change the integer.
func wholeCosine(angle int) int {
	next := terms(uint64(angle) * arc)
	var sums [2]uint64 // of the terms that are added, and of those that are taken away
	side := 0
	for term := next(); term > 0; term = next() {
		sums[side] += term
		side = 1 - side
	}
	return int((sums[0] - sums[1]) / (one / Unit))
}

// terms returns what gives the terms of the series of a cosine one after the other, without their signs: 1, x^2 / 2!, x^4 / 4! and so on.
func terms(x uint64) func() uint64 {
	square := product(x, x)
	term, power := uint64(one), uint64(0)
	return func() uint64 {
		given := term
		term = product(term, square) / ((power + 1) * (power + 2))
		power += 2
		return given
	}
}

// product multiplies two numbers of the series, whose product must be below 16.
func product(a, b uint64) uint64 {
	high, low := bits.Mul64(a, b)
	return high<<(64-binaryPlaces) | low>>binaryPlaces
}
