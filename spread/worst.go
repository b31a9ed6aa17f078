package spread

import "tidewall/api"

// Worst returns when nodes are reached, whichever units fail.
func Worst(n Net, s Start, states []int, f int) ([]api.Span, api.Errno) {
	if e := checkStates(n, s, states, f); e != api.OK {
		return nil, e
	}
	o := outlookOf(n, s, states)
	return join(o.earliest(o.failed), o.worst(f)), api.OK
}

// Meets reports which dues are met.
func Meets(n Net, s Start, states []int, f int, l []Due) ([]bool, api.Errno) {
	if e := checkDues(n, s, states, f, l...); e != api.OK {
		return nil, e
	}
	worst := outlookOf(n, s, states).worst(f)
	var met []bool
	for _, d := range l {
		met = append(met, worst[d.Node] <= d.By)
	}
	return met, api.OK
}

// Blame returns units with which a due is not met.
func Blame(n Net, s Start, states []int, f int, d Due) ([]int, bool, api.Errno) {
	if e := checkDues(n, s, states, f, d); e != api.OK {
		return nil, false, e
	}
	blamed, isLate := outlookOf(n, s, states).blame(f, d)
	return blamed.units(), isLate, api.OK
}

// Strong returns how many units can fail.
func Strong(n Net, s Start, states []int, d Due) (int, api.Errno) {
	if e := checkDues(n, s, states, 0, d); e != api.OK {
		return 0, e
	}
	blamed, isLate := outlookOf(n, s, states).blame(MaxDown, d)
	if !isLate {
		return MaxDown, api.OK
	}
	// No smaller set makes it late.
	return len(blamed.units()) - 1, api.OK
}

// Needed returns the units on which a due depends.
func Needed(n Net, s Start, states []int, d Due) ([]int, api.Errno) {
	if e := checkDues(n, s, states, 0, d); e != api.OK {
		return nil, e
	}
	o := outlookOf(n, s, states)
	var needed set
	for failed := range sets(o.fine, 1) {
		if o.latestWithout(failed)[d.Node] > d.By {
			needed = needed.and(failed)
		}
	}
	return needed.units(), api.OK
}

// checkDues returns the errors of checkStates, and then those of dues.
func checkDues(n Net, s Start, states []int, f int, l ...Due) api.Errno {
	if e := checkStates(n, s, states, f); e != api.OK {
		return e
	}
	if len(l) > MaxDues {
		return api.ErrMany
	}
	for _, d := range l {
		if !hasNode(n, d.Node) {
			return api.ErrNone
		}
		if !within(d.By, 0, api.Never) {
			return api.ErrRange
		}
	}
	return api.OK
}
