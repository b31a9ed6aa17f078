package gauge

import (
	"tidewall/api"
	"tidewall/tide"
	"tidewall/wave"
)

// Allows reports whether a reading allows a source at a time.
func Allows(s Site, x api.Source, r Reading, t int) (bool, api.Errno) {
	if e := Check(s); e != api.OK {
		return false, e
	}
	m, e := meaningOf(s, r)
	if e != api.OK {
		return false, e
	}
	if e := checkSource(s, x); e != api.OK {
		return false, e
	}
	if !isTime(t) {
		return false, api.ErrRange
	}
	return m.allows(boundsOf(s, x)[m.by.Cell], t), api.OK
}

// boundsOf takes a valid site, and a source without an error, and returns what the wave of this does in each cell, if it begins at the time 0.
func boundsOf(s Site, x api.Source) []wave.Bound {
	sea, _ := tide.Range(s.Tide)
	bounds, _ := wave.One(s.Grid, sea, s.Wave, timeless(x))
	return bounds
}

// timeless returns a source at the time 0: what its wave does is the same at all times, but for these.
func timeless(x api.Source) api.Source {
	x.Time = api.Span{}
	return x
}

// allows says whether a reading allows a wave that begins at a time. Its bounds are those at the gauge, if it begins at 0.
func (m meaning) allows(b wave.Bound, time int) bool {
	arrive := plus(b.Arrive, api.Span{Lo: time, Hi: time})
	canHaveCome := arrive.Lo <= m.outer.Hi
	switch m.Kind {
	case Height:
		return haveCommon(m.truth, m.tide) || canHaveCome && haveCommon(m.truth, upset(m.tide, b.Rise))
	case Peak:
		return haveCommon(m.truth, m.peak(arrive, b.Rise))
	case Came:
		return b.Rise.Hi >= m.by.Notice && canHaveCome && arrive.Hi >= m.outer.Lo
	}
	return b.Rise.Lo < m.by.Notice || arrive.Hi > m.outer.Lo
}

// peak returns how high the highest level of a reading's time can be, with a wave that arrives at some time.
func (m meaning) peak(arrive, rise api.Span) api.Span {
	if arrive.Lo > m.outer.Hi {
		return m.tide
	}
	// No arrival lies within an inner time that is empty.
	comesForSure := arrive.Lo >= m.inner.Lo && arrive.Hi <= m.inner.Hi
	if comesForSure {
		return plus(m.tide, rise)
	}
	return upset(m.tide, rise)
}

// turns returns times from which on a reading can allow, or no longer allow, a wave that begins then, and arrives so much later. Between them nothing changes, whatever the reading's kind.
func (m meaning) turns(arrive api.Span) []int {
	return []int{
		m.outer.Hi - arrive.Lo + 1,
		m.outer.Lo - arrive.Hi,
		m.outer.Lo - arrive.Hi + 1,
		m.inner.Lo - arrive.Lo,
		m.inner.Hi - arrive.Hi + 1,
	}
}

// upset returns how high the water can stand behind a wave, which raises or lowers it by its rise at most.
func upset(level, rise api.Span) api.Span {
	return api.Span{Lo: level.Lo - rise.Hi, Hi: level.Hi + rise.Hi}
}

// haveCommon says whether two spans have a common integer.
func haveCommon(a, b api.Span) bool {
	return max(a.Lo, b.Lo) <= min(a.Hi, b.Hi)
}
