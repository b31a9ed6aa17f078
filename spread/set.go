package spread

import "iter"

// set is a set of units.
type set [MaxUnits]bool

func setOf(units ...int) set {
	var s set
	for _, unit := range units {
		s[unit] = true
	}
	return s
}

// has says whether a unit is in a set: never that of a link without one.
func (s set) has(unit int) bool {
	return unit != alone && s[unit]
}

// and returns a set with the units of another one besides.
func (s set) and(other set) set {
	for unit, isIn := range other {
		s[unit] = s[unit] || isIn
	}
	return s
}

// units returns the units of a set, ascending.
func (s set) units() []int {
	var units []int
	for unit, isIn := range s {
		if isIn {
			units = append(units, unit)
		}
	}
	return units
}

// sets yields all sets of so many of some ascending units, in the order of sets.
func sets(units []int, size int) iter.Seq[set] {
	return func(yield func(set) bool) {
		choose(units, size, set{}, yield)
	}
}

// choose yields what a set becomes with so many of some units besides, in the order of sets, and says whether more is asked for.
func choose(units []int, size int, chosen set, yield func(set) bool) bool {
	if size == 0 {
		return yield(chosen)
	}
	for i := range len(units) - size + 1 {
		if !choose(units[i+1:], size-1, chosen.and(setOf(units[i])), yield) {
			return false
		}
	}
	return true
}
