package tide_test

import (
	"math"
	"math/rand/v2"
	"testing"

	"tidewall/api"
	"tidewall/tide"
)

// sp is a span, or, with one number, a point.
func sp(lo int, hi ...int) api.Span {
	if len(hi) == 0 {
		return api.Span{Lo: lo, Hi: lo}
	}
	return api.Span{Lo: lo, Hi: hi[0]}
}

func spanIn(a, b api.Span) bool { return a.Lo >= b.Lo && a.Hi <= b.Hi }

func dice(seed uint64) *rand.Rand { return rand.New(rand.NewPCG(seed, 2)) }

// within returns a random valid span with ends from least to greatest.
func within(r *rand.Rand, least, greatest int) api.Span {
	lo := least + r.IntN(greatest-least+1)
	return sp(lo, lo+r.IntN(greatest-lo+1))
}

// inTurn is the angle from 0 to 3599 that differs from this one by whole turns.
func inTurn(angle int) int { return (angle%3600 + 3600) % 3600 }

// realCosine is 2^16 times a cosine, but for the rounding of floats.
func realCosine(angle float64) float64 {
	return 65536 * math.Cos(math.Mod(angle, 3600)*math.Pi/1800)
}

// pointBounds are the cosine bounds of one angle, by their definition. A float is exact enough for it: only the cosines that are integers come near to one.
func pointBounds(angle int) api.Span {
	switch inTurn(angle) {
	case 0:
		return sp(65536)
	case 600, 3000:
		return sp(32768)
	case 900, 2700:
		return sp(0)
	case 1200, 2400:
		return sp(-32768)
	case 1800:
		return sp(-65536)
	}
	c := realCosine(float64(inTurn(angle)))
	if math.Abs(c-math.Round(c)) < 1e-6 {
		panic("too near to an integer")
	}
	return sp(int(math.Floor(c)), int(math.Ceil(c)))
}

// turnOfBounds are the point bounds of the angles from 0 to 3599.
func turnOfBounds() []api.Span {
	l := make([]api.Span, 3600)
	for angle := range l {
		l[angle] = pointBounds(angle)
	}
	return l
}

// spanBounds are the cosine bounds of a span of angles, by looking at all integers in it: cosines are greatest and least only at these.
func spanBounds(turn []api.Span, a api.Span) api.Span {
	b := turn[inTurn(a.Lo)]
	for angle := a.Lo; angle <= min(a.Hi, a.Lo+3600); angle++ {
		b.Lo, b.Hi = min(b.Lo, turn[inTurn(angle)].Lo), max(b.Hi, turn[inTurn(angle)].Hi)
	}
	return b
}

func cos(t *testing.T, lo int, hi ...int) api.Span {
	t.Helper()
	c, e := tide.Cos(sp(lo, hi...))
	if e != api.OK {
		t.Fatal(lo, hi, e)
	}
	return c
}

// P2.1: the bounds of all single angles of some turns differ by 0 just where the cosine is 0, 1/2, 1, -1/2 or -1, and by 1 elsewhere.
func TestCosOfPoints(t *testing.T) {
	turn := turnOfBounds()
	for _, start := range []int{0, -3600, 3600, -1 << 40, 1<<40 - 3599} {
		for angle := start; angle < start+3600; angle++ {
			if c := cos(t, angle); c != turn[inTurn(angle)] {
				t.Error(angle, c, turn[inTurn(angle)])
			}
		}
	}
	for angle := range 3600 {
		want := 1
		switch angle {
		case 0, 600, 900, 1200, 1800, 2400, 2700, 3000:
			want = 0
		}
		if c := cos(t, angle); c.Hi-c.Lo != want {
			t.Error(angle, c)
		}
	}
}

// P2.1: the bounds of spans, also around the angles where a cosine turns, and over more than a turn.
func TestCosOfSpans(t *testing.T) {
	turn := turnOfBounds()
	check := func(a api.Span) {
		if c := cos(t, a.Lo, a.Hi); c != spanBounds(turn, a) {
			t.Error(a, c, spanBounds(turn, a))
		}
	}
	for _, at := range []int{-5400, -3600, -1800, 0, 900, 1800, 2700, 3600, 5400, 7200} {
		for lo := at - 3; lo <= at+3; lo++ {
			for hi := lo; hi <= at+3; hi++ {
				check(sp(lo, hi))
				check(sp(lo, hi+1800))
				check(sp(lo, hi+3600))
			}
		}
	}
	r := dice(1)
	for range 3000 {
		check(within(r, -9000, 9000))
		lo := r.IntN(1<<41-9000) - 1<<40
		check(sp(lo, lo+r.IntN(4000)))
	}
	check(sp(-1<<40, 1<<40))
}

// The examples of the chapter, and example 2 of DOC.md.
func TestCosExamples(t *testing.T) {
	for k, x := range []struct{ a, want api.Span }{
		{sp(0), sp(65536)}, {sp(600), sp(32768)}, {sp(900), sp(0)}, {sp(1800), sp(-65536)},
		{sp(450), sp(46340, 46341)}, {sp(1), sp(65535, 65536)},
		{sp(-10, 10), sp(65526, 65536)}, {sp(600, 3000), sp(-65536, 32768)}, {sp(450, 900), sp(0, 46341)}, {sp(0, 3599), sp(-65536, 65536)},
	} {
		if c, e := tide.Cos(x.a); e != api.OK || c != x.want {
			t.Error(k, c, e)
		}
	}
}

// P2.1: spans that are not valid, or have angles that are too great; the greatest ones are not.
func TestCosErrors(t *testing.T) {
	for k, a := range []api.Span{
		sp(1, 0), sp(1<<40, -1<<40), sp(-1<<40-1, 0), sp(0, 1<<40+1), sp(-1<<40 - 1), sp(1<<40 + 1),
		sp(math.MinInt, math.MaxInt), sp(math.MaxInt, math.MinInt), sp(math.MinInt), sp(math.MaxInt), sp(0, math.MaxInt), sp(math.MinInt, 0),
	} {
		if c, e := tide.Cos(a); e != api.ErrRange || c != sp(0) {
			t.Error(k, c, e)
		}
	}
	for k, a := range []api.Span{sp(-1 << 40), sp(1 << 40), sp(-1<<40, 1<<40), sp(0)} {
		if _, e := tide.Cos(a); e != api.OK {
			t.Error(k, e)
		}
	}
}

// P2.5, G1: the bounds of a span have those of each span within it.
func TestCosWithin(t *testing.T) {
	r := dice(2)
	for range 20000 {
		a := within(r, -8000, 8000)
		b := within(r, a.Lo, a.Hi)
		outer, inner := cos(t, a.Lo, a.Hi), cos(t, b.Lo, b.Hi)
		if !spanIn(inner, outer) || inner.Lo > inner.Hi || !spanIn(outer, sp(-65536, 65536)) {
			t.Error(a, outer, b, inner)
		}
	}
}

// P2.5: the opposite angle, one and a half turn more; also for spans.
func TestCosOfOtherAngles(t *testing.T) {
	r := dice(3)
	check := func(a api.Span) {
		c := cos(t, a.Lo, a.Hi)
		if o := cos(t, -a.Hi, -a.Lo); o != c {
			t.Error("opposite", a, c, o)
		}
		if o := cos(t, a.Lo+3600, a.Hi+3600); o != c {
			t.Error("a turn more", a, c, o)
		}
		if o := cos(t, a.Lo+1800, a.Hi+1800); o != sp(-c.Hi, -c.Lo) {
			t.Error("half a turn more", a, c, o)
		}
	}
	for angle := -3600; angle < 3600; angle++ {
		check(sp(angle))
	}
	for range 5000 {
		check(within(r, -5000, 5000))
	}
}

// products is the span of the products of numbers in two spans.
func products(a, b api.Span) api.Span {
	l := [4]int{a.Lo * b.Lo, a.Lo * b.Hi, a.Hi * b.Lo, a.Hi * b.Hi}
	return sp(min(l[0], l[1], l[2], l[3]), max(l[0], l[1], l[2], l[3]))
}

// squares is the span of the squares of numbers in a span.
func squares(a api.Span) api.Span {
	s := products(a, a)
	if a.Lo > 0 || a.Hi < 0 {
		s.Lo = min(a.Lo*a.Lo, a.Hi*a.Hi)
	} else {
		s.Lo = 0
	}
	return s
}

// P2.5: the squares of a cosine and a sine can be 2^32 together, and the cosine of a sum of angles meets what the theorem of addition makes of products.
func TestCosTheorems(t *testing.T) {
	r := dice(4)
	sin := func(angle int) api.Span { return cos(t, angle-900) }
	for angle := -3600; angle <= 3600; angle++ {
		c, s := squares(cos(t, angle)), squares(sin(angle))
		if c.Lo+s.Lo > 1<<32 || c.Hi+s.Hi < 1<<32 {
			t.Error(angle, c, s)
		}
	}
	for range 50000 {
		a, b := r.IntN(7200)-3600, r.IntN(7200)-3600
		cc, ss := products(cos(t, a), cos(t, b)), products(sin(a), sin(b))
		sum := cos(t, a+b)
		if sum.Lo*65536 > cc.Hi-ss.Lo || sum.Hi*65536 < cc.Lo-ss.Hi {
			t.Error(a, b, sum, cc, ss)
		}
	}
}
