package wave

import (
	"math/bits"

	"tidewall/api"
)

const (
	gravity   = 981 // centimetres per second, in each second
	wholeKeep = 1024
	// Depths are multiplied by 2^40 before their fourth root is taken, so that this is counted in 2^-10.
	rootPlaces = 40
)

// side is where bounds lie, below the truth or above it: which end of a span is meant, and how roots and quotients are rounded.
type side struct {
	end      func(s api.Span) int
	root     func(n int) int
	quotient func(n, divisor int) int
}

func below() side {
	return side{func(s api.Span) int { return s.Lo }, rootDown, down}
}

func above() side {
	return side{func(s api.Span) int { return s.Hi }, rootUp, up}
}

func (s side) fourthRoot(depth int) int {
	return s.root(s.root(depth << rootPlaces))
}

// crossing returns how many milliseconds a wave takes over as many metres, in water of a depth.
func (s side) crossing(metres, depth int) int {
	return s.root(s.quotient(metres*metres*10_000_000_000, gravity*depth))
}

func (s side) flowInSea(rise, depth int) int {
	return s.root(s.quotient(rise*rise*gravity, depth))
}

func (s side) flowOnLand(rise int) int {
	return s.root(gravity * rise)
}

// down and up return the quotient of a number from 0 on by a positive one.

func down(n, divisor int) int {
	return n / divisor
}

func up(n, divisor int) int {
	return (n + divisor - 1) / divisor
}

// rootDown comes down to the root of a number from 0 on: the mean of a number above the root and of the quotient by it is never below the root.
func rootDown(n int) int {
	root := 1 << ((bits.Len(uint(n)) + 1) / 2)
	for root > 0 && root > n/root {
		root = (root + n/root) / 2
	}
	return root
}

func rootUp(n int) int {
	root := rootDown(n)
	if root*root < n {
		root++
	}
	return root
}
