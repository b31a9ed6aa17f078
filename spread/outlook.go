package spread

// outlook is how a warning goes through a network, as far as the states of its units say.
type outlook struct {
	course
	failed set
	down   set   // those, and the doubtful ones: what nobody can rely on
	fine   []int // ascending
}

// outlookOf takes states without an error.
func outlookOf(n Net, s Start, states []int) outlook {
	o := outlook{course: courseOf(n, s)}
	for unit, state := range states {
		o.failed[unit] = state == Failed
		o.down[unit] = state != Fine
		if state == Fine {
			o.fine = append(o.fine, unit)
		}
	}
	return o
}

// latestWithout returns by when nodes are reached for sure when fine units have failed besides.
func (o outlook) latestWithout(failed set) []int {
	return o.latest(o.down.and(failed))
}

// worst returns by when nodes are reached for sure, whichever fine units have failed, up to so many.
func (o outlook) worst(f int) []int {
	worst := make([]int, o.nodes)
	// Nothing comes earlier when more has failed: so the greatest sets are enough.
	for failed := range sets(o.fine, min(f, len(o.fine))) {
		for node, time := range o.latestWithout(failed) {
			worst[node] = max(worst[node], time)
		}
	}
	return worst
}

// blame returns the first set of fine units, up to so many, with which a due is not met, and whether there is one.
func (o outlook) blame(f int, d Due) (blamed set, isLate bool) {
search:
	for size := range f + 1 {
		for failed := range sets(o.fine, size) {
			if o.latestWithout(failed)[d.Node] > d.By {
				blamed, isLate = failed, true
				break search
			}
		}
	}
	return blamed, isLate
}
