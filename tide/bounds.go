package tide

import "tidewall/api"

// bounds are numbers between which one lies that is not known better.
type bounds struct {
	api.Span
}

func exactly(n int) bounds {
	return bounds{api.Span{Lo: n, Hi: n}}
}

func (b bounds) plus(c bounds) bounds {
	return bounds{api.Span{Lo: b.Lo + c.Lo, Hi: b.Hi + c.Hi}}
}

// times takes a factor that is not negative: a negative one would exchange the ends.
func (b bounds) times(n int) bounds {
	return bounds{api.Span{Lo: b.Lo * n, Hi: b.Hi * n}}
}

func (b bounds) negative() bounds {
	return bounds{api.Span{Lo: -b.Hi, Hi: -b.Lo}}
}

// with returns the least bounds that hold what either of two holds.
func (b bounds) with(c bounds) bounds {
	return bounds{api.Span{Lo: min(b.Lo, c.Lo), Hi: max(b.Hi, c.Hi)}}
}

// inUnits divides by the unit of cosines, and rounds outward.
func (b bounds) inUnits() bounds {
	return bounds{api.Span{Lo: floorUnits(b.Lo), Hi: -floorUnits(-b.Hi)}}
}

// floorUnits rounds down also where a quotient in Go is rounded toward zero.
func floorUnits(n int) int {
	return (n - modulo(n, Unit)) / Unit
}

// modulo is not negative, unlike a remainder in Go.
func modulo(n, divisor int) int {
	rest := n % divisor
	if rest < 0 {
		rest += divisor
	}
	return rest
}
