package warn

import (
	"iter"
	"maps"
	"slices"

	"tidewall/api"
)

// Board is what somebody knows who gets bulletins of several centres.
type Board struct {
	kept map[origin]Bulletin
}

// origin is a centre and an event, of which a board keeps one bulletin.
type origin struct {
	centre string
	event  string
}

// NewBoard returns a board.
func NewBoard() *Board {
	return &Board{kept: map[origin]Bulletin{}}
}

// Take takes a bulletin.
func (b *Board) Take(x Bulletin) api.Errno {
	if !b.isMade() {
		return api.ErrNil
	}
	if e := CheckBulletin(x); e != api.OK {
		return e
	}
	from := origin{x.Centre, x.Event}
	last, isKnown := b.kept[from]
	if isKnown && last.Number >= x.Number {
		return api.ErrStale
	}
	if !isKnown && len(b.kept) >= MaxCentres {
		return api.ErrMany
	}
	x.Items = slices.Clone(x.Items)
	b.kept[from] = x
	return api.OK
}

// Stage returns the highest stage in force in a region, and who says so.
func (b *Board) Stage(region string) (int, []string, api.Errno) {
	if !b.isMade() {
		return 0, nil, api.ErrNil
	}
	highest, centres := None, map[string]bool{}
	for centre, x := range b.items() {
		if x.Region != region || x.Stage < highest {
			continue
		}
		if x.Stage > highest {
			highest = x.Stage
			clear(centres)
		}
		centres[centre] = true
	}
	if len(centres) == 0 {
		return 0, nil, api.ErrNone
	}
	return highest, slices.Sorted(maps.Keys(centres)), api.OK
}

// Regions returns the regions of which something was said.
func (b *Board) Regions() []string {
	if !b.isMade() {
		return nil
	}
	regions := map[string]bool{}
	for _, x := range b.items() {
		regions[x.Region] = true
	}
	return slices.Sorted(maps.Keys(regions))
}

// isMade says whether NewBoard made a board: only then is there a map.
func (b *Board) isMade() bool {
	return b != nil && b.kept != nil
}

// items yields the items of all bulletins that are kept, each with its centre, in any order.
func (b *Board) items() iter.Seq2[string, Item] {
	return func(yield func(string, Item) bool) {
		for from, bulletin := range b.kept {
			for _, x := range bulletin.Items {
				if !yield(from.centre, x) {
					return
				}
			}
		}
	}
}
