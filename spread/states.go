package spread

import (
	"slices"

	"tidewall/api"
)

// States returns the states of units by their tests.
func States(n Net, l []Test, now, age int) ([]int, api.Errno) {
	if e := Check(n); e != api.OK {
		return nil, e
	}
	if len(l) > MaxTests {
		return nil, api.ErrMany
	}
	for _, t := range l {
		if !hasUnit(n, t.Unit) {
			return nil, api.ErrNone
		}
		if !isTime(t.Time) {
			return nil, api.ErrRange
		}
	}
	if !isTime(now) || !isTime(age) {
		return nil, api.ErrRange
	}
	return statesOf(n, l, now, age), api.OK
}

func statesOf(n Net, l []Test, now, age int) []int {
	states := slices.Repeat([]int{Doubtful}, n.Units)
	last := slices.Repeat([]int{0}, n.Units)
	for _, t := range l {
		if t.Time > now || t.Time < last[t.Unit] {
			continue
		}
		last[t.Unit] = t.Time
		states[t.Unit] = t.state(now, age)
	}
	return states
}

// state returns the state of a unit of which a test is the last one.
func (t Test) state(now, age int) int {
	if !t.Good {
		return Failed
	}
	if now-t.Time > age {
		return Doubtful
	}
	return Fine
}

// checkStates returns the errors of a network, of a start, and of states with a number of units that can fail.
func checkStates(n Net, s Start, states []int, f int) api.Errno {
	if e := checkBegin(n, s); e != api.OK {
		return e
	}
	if len(states) != n.Units {
		return api.ErrShape
	}
	for _, state := range states {
		if !within(state, Fine, Failed) {
			return api.ErrArg
		}
	}
	if !within(f, 0, MaxDown) {
		return api.ErrRange
	}
	return api.OK
}
