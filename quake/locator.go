package quake

import (
	"slices"

	"tidewall/api"
)

// Locator is sources with the picks that came so far.
type Locator struct {
	search
	picks []Pick
}

// New returns a locator without picks.
func New(m Model, stations []int, l []api.Source, f int) (*Locator, api.Errno) {
	s := search{m, stations, l, f}
	if e := s.check(nil); e != api.OK {
		return nil, e
	}
	return &Locator{search: s.clone()}, api.OK
}

// Add adds a pick, and returns how many sources it strikes.
func (x *Locator) Add(p Pick) (int, api.Errno) {
	if !x.isMade() {
		return 0, api.ErrNil
	}
	if len(x.picks) >= MaxPicks {
		return 0, api.ErrMany
	}
	if e := checkPick(p, len(x.stations)); e != api.OK {
		return 0, e
	}
	before := len(x.left(x.picks))
	// The picks get new memory each time: a locator that is assigned as a value must not write into those of the other one.
	x.picks = append(slices.Clip(x.picks), p)
	return before - len(x.left(x.picks)), api.OK
}

// Left returns what is left of the sources.
func (x *Locator) Left() []api.Source {
	if !x.isMade() {
		return nil
	}
	return x.left(x.picks)
}

// Picks returns the picks.
func (x *Locator) Picks() []Pick {
	if !x.isMade() {
		return nil
	}
	return slices.Clone(x.picks)
}

// Copy returns an independent locator.
func (x *Locator) Copy() *Locator {
	if !x.isMade() {
		return nil
	}
	return &Locator{x.search.clone(), slices.Clone(x.picks)}
}

// isMade says whether New or Copy made a locator: only then does it have a valid model, which has columns.
func (x *Locator) isMade() bool {
	return x != nil && x.model.Wide > 0
}

func (s search) clone() search {
	s.stations = slices.Clone(s.stations)
	s.sources = slices.Clone(s.sources)
	return s
}
