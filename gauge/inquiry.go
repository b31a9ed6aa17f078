package gauge

import (
	"iter"
	"math/bits"
	"slices"

	"tidewall/api"
	"tidewall/wave"
)

// inquiry is a case without an error, with what its readings mean, and with what the waves of its sources do in each cell, if they begin at the time 0.
type inquiry struct {
	Case
	meanings []meaning
	waves    map[api.Source][]wave.Bound // by sources at the time 0
}

// set is readings of a case: each has the bit of its number. MaxReadings of them have room.
type set uint64

func (s set) has(i int) bool {
	return s>>i&1 == 1
}

func (s set) with(i int) set {
	return s | 1<<i
}

func (s set) without(i int) set {
	return s &^ (1 << i)
}

func (s set) size() int {
	return bits.OnesCount64(uint64(s))
}

// noWave stands for no wave among the sources: it is of no kind, and at a single time, as time does not matter to it.
func noWave() api.Source {
	return api.Source{}
}

// inquire returns the error of a site, or of a case.
func inquire(s Site, c Case) (inquiry, api.Errno) {
	if e := Check(s); e != api.OK {
		return inquiry{}, e
	}
	if e := checkSources(s, c.Sources); e != api.OK {
		return inquiry{}, e
	}
	if len(c.Readings) > MaxReadings {
		return inquiry{}, api.ErrMany
	}
	var meanings []meaning
	for _, r := range c.Readings {
		m, e := meaningOf(s, r)
		if e != api.OK {
			return inquiry{}, e
		}
		meanings = append(meanings, m)
	}
	if !within(c.False, 0, MaxFalse) {
		return inquiry{}, api.ErrRange
	}
	return inquiry{c, meanings, wavesOf(s, c.Sources)}, api.OK
}

func checkSources(s Site, l []api.Source) api.Errno {
	if len(l) > api.MaxSources {
		return api.ErrMany
	}
	for _, x := range l {
		if e := checkSource(s, x); e != api.OK {
			return e
		}
	}
	return api.OK
}

// wavesOf looks at sources that differ in their times alone only once.
func wavesOf(s Site, l []api.Source) map[api.Source][]wave.Bound {
	nothing := wave.Bound{Arrive: api.Span{Lo: api.Never, Hi: api.Never}}
	waves := map[api.Source][]wave.Bound{noWave(): slices.Repeat([]wave.Bound{nothing}, len(s.Grid.Ground))}
	for _, x := range l {
		if _, isKnown := waves[timeless(x)]; !isKnown {
			waves[timeless(x)] = boundsOf(s, x)
		}
	}
	return waves
}

// possibilities yields, for each piece of what is possible, the readings that do not allow it.
func (q inquiry) possibilities() iter.Seq[set] {
	return func(yield func(set) bool) {
		all := slices.Clone(q.Sources)
		if q.Quiet {
			all = append(all, noWave())
		}
		for _, x := range all {
			for _, wrong := range q.pieces(x) {
				if !yield(wrong) {
					return
				}
			}
		}
	}
}

// pieces yields pieces of the time of a source in which the same readings allow it, in order, each with those that do not.
func (q inquiry) pieces(x api.Source) iter.Seq2[api.Span, set] {
	return func(yield func(api.Span, set) bool) {
		bounds := q.waves[timeless(x)]
		start := x.Time.Lo
		for _, turn := range q.turns(bounds, x.Time) {
			if !yield(api.Span{Lo: start, Hi: turn - 1}, q.wrong(bounds, start)) {
				return
			}
			start = turn
		}
		yield(api.Span{Lo: start, Hi: x.Time.Hi}, q.wrong(bounds, start))
	}
}

// turns returns the times, behind the first one of some times, from which on another set of readings can allow a wave that begins then.
func (q inquiry) turns(bounds []wave.Bound, time api.Span) []int {
	var l []int
	for _, m := range q.meanings {
		for _, turn := range m.turns(bounds[m.by.Cell].Arrive) {
			if within(turn, time.Lo+1, time.Hi) {
				l = append(l, turn)
			}
		}
	}
	slices.Sort(l)
	return slices.Compact(l)
}

// wrong returns the readings that do not allow a wave that begins at a time.
func (q inquiry) wrong(bounds []wave.Bound, time int) set {
	var s set
	for i, m := range q.meanings {
		if !m.allows(bounds[m.by.Cell], time) {
			s = s.with(i)
		}
	}
	return s
}

// remains says whether a possibility remains that some readings do not allow.
func (q inquiry) remains(wrong set) bool {
	return wrong.size() <= q.False
}
