package spread

import (
	"slices"

	"tidewall/api"
)

// Diagnose returns which units worked, and which failed.
func Diagnose(n Net, s Start, l []Receipt, until int) (worked, failed []int, e api.Errno) {
	if e := checkBegin(n, s); e != api.OK {
		return nil, nil, e
	}
	if !isTime(until) {
		return nil, nil, api.ErrRange
	}
	times, e := timesOf(n, l, until)
	if e != api.OK {
		return nil, nil, e
	}
	if times[s.Node] == api.Never {
		return nil, nil, api.ErrArg
	}
	r := runOf(n, s, times, until)
	down, areKept := r.failures()
	up, areBrought := r.workers(down)
	if !areKept || !areBrought || !within(times[s.Node], s.Time.Lo, s.Time.Hi) {
		return nil, nil, api.ErrConflict
	}
	return up.units(), down.units(), api.OK
}

// timesOf returns the time of the receipt of each node, api.Never if it has none, or the error of the first receipt that has one.
func timesOf(n Net, l []Receipt, until int) ([]int, api.Errno) {
	times := slices.Repeat([]int{api.Never}, n.Nodes)
	for _, x := range l {
		if !hasNode(n, x.Node) {
			return nil, api.ErrNone
		}
		if times[x.Node] != api.Never {
			return nil, api.ErrHave
		}
		if !within(x.Time, 0, until) {
			return nil, api.ErrRange
		}
		times[x.Node] = x.Time
	}
	return times, api.OK
}

// run is what is known of a run up to some time.
type run struct {
	start int
	times []int          // of the receipts of nodes; api.Never without one
	to    map[int][]Link // by the nodes to which they lead, but for the start
	until int
}

func runOf(n Net, s Start, times []int, until int) run {
	to := linksBy(n, func(l Link) int { return l.To })
	delete(to, s.Node)
	return run{s.Node, times, to, until}
}

// failures returns the units that failed for sure, and whether all links without a unit did what they have to.
func (r run) failures() (failed set, areKept bool) {
	areKept = true
	for node := range r.times {
		for _, l := range r.to[node] {
			if !r.isBroken(l) {
				continue
			}
			if l.Unit == alone {
				areKept = false
			} else {
				failed[l.Unit] = true
			}
		}
	}
	return failed, areKept
}

// isBroken says whether a link had to pass the warning on in time, and did not. Where nothing came to it, this is due later than anything is known.
func (r run) isBroken(l Link) bool {
	due := r.times[l.From] + l.Delay.Hi
	return l.Sure && due <= r.until && r.times[l.To] > due
}

// workers returns the units that worked for sure, and whether each receipt, but that of the start, can have been brought by a link.
func (r run) workers(failed set) (worked set, areBrought bool) {
	areBrought = true
	for node, time := range r.times {
		if node == r.start || time == api.Never {
			continue
		}
		units, isFree := r.bringers(node, failed)
		if isFree {
			continue
		}
		if units == (set{}) {
			areBrought = false
		}
		for _, unit := range units.units() {
			if units == setOf(unit) {
				worked[unit] = true
			}
		}
	}
	return worked, areBrought
}

// bringers returns the units of the links that can have brought the receipt of a node, and whether one of these links has none.
func (r run) bringers(node int, failed set) (units set, isFree bool) {
	for _, l := range r.to[node] {
		if !r.canHaveBrought(l, failed) {
			continue
		}
		if l.Unit == alone {
			isFree = true
		} else {
			units[l.Unit] = true
		}
	}
	return units, isFree
}

// canHaveBrought takes a link to a node with a receipt.
func (r run) canHaveBrought(l Link, failed set) bool {
	passed := r.times[l.To] - r.times[l.From]
	return within(passed, l.Delay.Lo, l.Delay.Hi) && !failed.has(l.Unit)
}
