package surge

import "tidewall/api"

// bounds are numbers between which one lies that is not known better.
type bounds struct {
	api.Span
}

func exactly(n int) bounds {
	return bounds{api.Span{Lo: n, Hi: n}}
}

// around returns the least bounds that hold what any of some bounds hold, of which there must be one at least.
func around(all ...bounds) bounds {
	least := all[0]
	for _, b := range all[1:] {
		least.Lo = min(least.Lo, b.Lo)
		least.Hi = max(least.Hi, b.Hi)
	}
	return least
}

func (b bounds) plus(c bounds) bounds {
	return bounds{api.Span{Lo: b.Lo + c.Lo, Hi: b.Hi + c.Hi}}
}

func (b bounds) minus(c bounds) bounds {
	return bounds{api.Span{Lo: b.Lo - c.Hi, Hi: b.Hi - c.Lo}}
}

func (b bounds) negative() bounds {
	return exactly(0).minus(b)
}

func (b bounds) has(n int) bool {
	return b.Lo <= n && n <= b.Hi
}

// nearest returns the least absolute value within the bounds.
func (b bounds) nearest() int {
	return max(0, b.Lo, -b.Hi)
}

// farthest returns the greatest absolute value within the bounds.
func (b bounds) farthest() int {
	return max(-b.Lo, b.Hi)
}

// down returns a quotient by a positive divisor, rounded down also where Go rounds toward zero.
func down(n, divisor int) int {
	quotient := n / divisor
	if n%divisor < 0 {
		quotient--
	}
	return quotient
}

// up returns a quotient by a positive divisor, rounded up. It is not made from down, since the least integer has no opposite.
func up(n, divisor int) int {
	quotient := n / divisor
	if n%divisor > 0 {
		quotient++
	}
	return quotient
}

// rootDown returns the root of a number from 0 on, rounded down. It comes down to it: the mean of a number above the root and of the quotient by it is never below the root.
func rootDown(n int) int {
	root := n
	for root > 0 && root > n/root {
		root = (root + n/root) / 2
	}
	return root
}

func rootUp(n int) int {
	root := rootDown(n)
	if root*root < n {
		root++
	}
	return root
}
