package quake

import (
	"iter"
	"slices"

	"tidewall/api"
)

// search is what quakes are looked for with, without the picks.
type search struct {
	model    Model
	stations []int
	sources  []api.Source
	most     int // picks that may be false
}

// Left returns what is left of sources, if at most f picks are false.
func Left(m Model, stations []int, l []api.Source, picks []Pick, f int) ([]api.Source, api.Errno) {
	s := search{m, stations, l, f}
	if e := s.check(picks); e != api.OK {
		return nil, e
	}
	return s.left(picks), api.OK
}

// Agree returns how many picks are false at least, -1 without a quake.
func Agree(m Model, stations []int, l []api.Source, picks []Pick) (int, api.Errno) {
	s := search{m, stations, l, 0}
	if e := s.check(picks); e != api.OK {
		return 0, e
	}
	least := -1
	for _, x := range l {
		if x.Kind != api.Quake {
			continue
		}
		wrong := leastWrong(x.Time, s.allowed(x, picks))
		if least < 0 || wrong < least {
			least = wrong
		}
	}
	return least, api.OK
}

func (s search) check(picks []Pick) api.Errno {
	if e := Check(s.model); e != api.OK {
		return e
	}
	if len(s.stations) > MaxStations {
		return api.ErrMany
	}
	for _, cell := range s.stations {
		if !s.model.hasCell(cell) {
			return api.ErrNone
		}
	}
	if e := CheckSources(s.model, s.sources); e != api.OK {
		return e
	}
	if len(picks) > MaxPicks {
		return api.ErrMany
	}
	for _, p := range picks {
		if e := checkPick(p, len(s.stations)); e != api.OK {
			return e
		}
	}
	if !within(s.most, 0, MaxFalse) {
		return api.ErrRange
	}
	return api.OK
}

func (s search) left(picks []Pick) []api.Source {
	var l []api.Source
	for _, x := range s.sources {
		if x.Kind == api.Quake {
			x.Time = s.possible(x, picks)
		}
		if x.Time.Lo <= x.Time.Hi {
			l = append(l, x)
		}
	}
	return l
}

// possible returns the least span with all times at which a quake is possible. It is not valid if there are none.
func (s search) possible(x api.Source, picks []Pick) api.Span {
	least := api.Span{Lo: api.Never, Hi: 0}
	for piece, wrong := range pieces(x.Time, s.allowed(x, picks)) {
		if wrong <= s.most {
			least.Lo = min(least.Lo, piece.Lo)
			least.Hi = piece.Hi
		}
	}
	return least
}

// allowed returns for each pick at which times it allows a quake.
func (s search) allowed(x api.Source, picks []Pick) []api.Span {
	known := kinds()
	var l []api.Span
	for _, p := range picks {
		distance := s.model.distance(x.Cell, s.stations[p.Station])
		e := effect{s.model.travel(distance), s.model.strength(x.Class, distance)}
		l = append(l, known[p.Kind].allows(p, e))
	}
	return l
}

// leastWrong returns how many picks at least do not allow a quake, whenever it is in its time.
func leastWrong(time api.Span, allowed []api.Span) int {
	least := len(allowed)
	for _, wrong := range pieces(time, allowed) {
		least = min(least, wrong)
	}
	return least
}

// turn is a time from which on more picks are wrong, or fewer.
type turn struct {
	time int
	more int
}

// pieces yields the pieces of a time in which the same picks allow a quake, in order, each with the number of the picks that do not.
func pieces(time api.Span, allowed []api.Span) iter.Seq2[api.Span, int] {
	return func(yield func(api.Span, int) bool) {
		start, wrong := time.Lo, len(allowed)
		for _, t := range turns(time, allowed) {
			if t.time > start && !yield(api.Span{Lo: start, Hi: t.time - 1}, wrong) {
				return
			}
			start = t.time
			wrong += t.more
		}
		if start <= time.Hi {
			yield(api.Span{Lo: start, Hi: time.Hi}, wrong)
		}
	}
}

func turns(time api.Span, allowed []api.Span) []turn {
	var l []turn
	for _, s := range allowed {
		both := common(time, s)
		if both.Lo <= both.Hi {
			l = append(l, turn{both.Lo, -1}, turn{both.Hi + 1, 1})
		}
	}
	slices.SortFunc(l, func(a, b turn) int { return a.time - b.time })
	return l
}
