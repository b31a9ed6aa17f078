package quake

import "tidewall/api"

// The kinds of picks.
const (
	Arrive   = 1
	Strength = 2
	Quiet    = 3
)

// Pick is what a station measured: when the first waves came, how strong the quake was, or that nothing had come up to a time.
type Pick struct {
	Kind    int
	Station int
	Time    api.Span
	Level   api.Span
}

// effect is what a station can feel of a quake: how long its waves take to come, and how strong it is.
type effect struct {
	travel   api.Span
	strength api.Span
}

// kind is what is peculiar to the picks of one kind: whether the span that matters to it is valid, and at which times of a quake it allows it.
type kind struct {
	isValid func(p Pick) bool
	allows  func(p Pick, e effect) api.Span
}

func kinds() map[int]kind {
	return map[int]kind{
		Arrive:   {hasTime, arriveAllows},
		Strength: {hasLevel, strengthAllows},
		Quiet:    {hasTime, quietAllows},
	}
}

// checkPick checks a pick of one of some stations.
func checkPick(p Pick, stations int) api.Errno {
	known, isKnown := kinds()[p.Kind]
	if !isKnown {
		return api.ErrArg
	}
	if !within(p.Station, 0, stations-1) {
		return api.ErrNone
	}
	if !known.isValid(p) {
		return api.ErrRange
	}
	return api.OK
}

func hasTime(p Pick) bool {
	return isTime(p.Time)
}

func hasLevel(p Pick) bool {
	return isSpanWithin(p.Level, -maxLevel, maxLevel)
}

func arriveAllows(p Pick, e effect) api.Span {
	return api.Span{Lo: p.Time.Lo - e.travel.Hi, Hi: p.Time.Hi - e.travel.Lo}
}

// strengthAllows does not depend on the time: it returns all times, or none.
func strengthAllows(p Pick, e effect) api.Span {
	both := common(p.Level, e.strength)
	if both.Lo > both.Hi {
		return api.Span{Lo: api.Never, Hi: 0}
	}
	return api.Span{Lo: 0, Hi: api.Never}
}

func quietAllows(p Pick, e effect) api.Span {
	return api.Span{Lo: p.Time.Lo - e.travel.Hi + 1, Hi: api.Never}
}
