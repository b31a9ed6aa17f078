package gauge

import "tidewall/api"

// Left returns what is left of the sources, and whether no wave remains.
func Left(s Site, c Case) ([]api.Source, bool, api.Errno) {
	q, e := inquire(s, c)
	if e != api.OK {
		return nil, false, e
	}
	var l []api.Source
	for _, x := range c.Sources {
		x.Time = q.left(x)
		if !isStruck(x.Time) {
			l = append(l, x)
		}
	}
	return l, c.Quiet && !isStruck(q.left(noWave())), api.OK
}

// Judge returns what is known of the readings.
func Judge(s Site, c Case) ([]int, api.Errno) {
	q, e := inquire(s, c)
	if e != api.OK {
		return nil, e
	}
	var objecting, allowing set
	for wrong := range q.possibilities() {
		if q.remains(wrong) {
			objecting |= wrong
			allowing |= ^wrong
		}
	}
	var l []int
	for i := range c.Readings {
		switch {
		case !allowing.has(i):
			l = append(l, False)
		case objecting.has(i):
			l = append(l, Open)
		default:
			l = append(l, Sure)
		}
	}
	return l, api.OK
}

// Agree returns how many readings are false at least.
func Agree(s Site, c Case) (int, api.Errno) {
	q, e := inquire(s, c)
	if e != api.OK {
		return 0, e
	}
	least := -1
	for wrong := range q.possibilities() {
		if least < 0 || wrong.size() < least {
			least = wrong.size()
		}
	}
	return least, api.OK
}

// left returns the least span with all times at which a source remains. It is not valid if there are none.
func (q inquiry) left(x api.Source) api.Span {
	least := api.Span{Lo: api.Never, Hi: 0}
	for piece, wrong := range q.pieces(x) {
		if q.remains(wrong) {
			least.Lo = min(least.Lo, piece.Lo)
			least.Hi = piece.Hi
		}
	}
	return least
}

func isStruck(time api.Span) bool {
	return time.Lo > time.Hi
}
