package tide

import (
	"iter"

	"tidewall/api"
)

// Peak returns bounds of the highest level of some times, which are looked at in pieces.
func Peak(m Model, t api.Span, step int) (api.Span, api.Errno) {
	if e := checkPieces(m, t, step); e != api.OK {
		return api.Span{}, e
	}
	// A level at a single time is reached for sure, that of a piece is only not exceeded. The first time lies in the first piece, so its level takes nothing from either end.
	peak := levelAt(m, t.Lo)
	for piece := range pieces(t, step) {
		peak.Lo = max(peak.Lo, levelAt(m, piece.Hi).Lo)
		peak.Hi = max(peak.Hi, levelIn(m, piece).Hi)
	}
	return peak, api.OK
}

// Windows returns the times in which the level is not above one, for sure.
func Windows(m Model, t api.Span, step, level int) ([]api.Span, api.Errno) {
	if e := checkPieces(m, t, step); e != api.OK {
		return nil, e
	}
	if !within(level, -api.MaxLevel, api.MaxLevel) {
		return nil, api.ErrRange
	}
	var windows []api.Span
	isOpen := false
	for piece := range pieces(t, step) {
		isLow := levelIn(m, piece).Hi <= level
		switch {
		case isLow && isOpen:
			windows[len(windows)-1].Hi = piece.Hi
		case isLow:
			windows = append(windows, piece)
		}
		isOpen = isLow
	}
	return windows, api.OK
}

func checkPieces(m Model, t api.Span, step int) api.Errno {
	if e := checkTimes(m, t); e != api.OK {
		return e
	}
	if step < 1 {
		return api.ErrRange
	}
	if countPieces(t, step) > MaxSteps {
		return api.ErrMany
	}
	return api.OK
}

// countPieces counts without adding up steps, which can be as great as an integer can be.
func countPieces(t api.Span, step int) int {
	if t.Lo == t.Hi {
		return 1
	}
	return (t.Hi-t.Lo-1)/step + 1
}

// pieces yields the pieces of a span of times, in order. Each begins where the one before it ends.
func pieces(t api.Span, step int) iter.Seq[api.Span] {
	return func(yield func(api.Span) bool) {
		start := t.Lo
		for t.Hi-start > step {
			if !yield(api.Span{Lo: start, Hi: start + step}) {
				return
			}
			start += step
		}
		yield(api.Span{Lo: start, Hi: t.Hi})
	}
}

func levelAt(m Model, time int) api.Span {
	return levelIn(m, api.Span{Lo: time, Hi: time})
}
