package warn_test

import (
	"math"
	"math/rand/v2"
	"reflect"
	"slices"
	"strconv"
	"strings"
	"testing"

	"tidewall/api"
	"tidewall/warn"
)

// sp is a span, or, with one number, a point.
func sp(lo int, hi ...int) api.Span {
	if len(hi) == 0 {
		return api.Span{Lo: lo, Hi: lo}
	}
	return api.Span{Lo: lo, Hi: hi[0]}
}

func dice(seed uint64) *rand.Rand { return rand.New(rand.NewPCG(seed, 1)) }

// state is water that comes at some time, so high.
func state(arrive, rise api.Span) warn.State { return warn.State{Arrive: arrive, Rise: rise} }

// none is water that does not come.
func none() warn.State { return state(sp(api.Never), sp(0)) }

// bay is the region R of the chapter's examples.
func bay() warn.Region {
	return warn.Region{Name: "bay", Heights: [3]int{10, 50, 200}, Leads: [3]int{0, 600000, 1800000}}
}

// region is the region of the examples with another name.
func region(name string) warn.Region {
	r := bay()
	r.Name = name
	return r
}

// regions are as many different ones.
func regions(n int) []warn.Region {
	l := make([]warn.Region, n)
	for i := range l {
		l[i] = region("r" + strconv.Itoa(i))
	}
	return l
}

// west is the centre C of the chapter's examples.
func west(t *testing.T) *warn.Centre { return centre(t, 3600000, bay()) }

func centre(t *testing.T, tail int, l ...warn.Region) *warn.Centre {
	t.Helper()
	c, e := warn.New("west", "e1", l, tail)
	if e != api.OK || c == nil {
		t.Fatal(c, e)
	}
	return c
}

func issue(t *testing.T, c *warn.Centre, now int, l ...warn.State) warn.Bulletin {
	t.Helper()
	b, e := c.Issue(now, l)
	if e != api.OK {
		t.Fatal(now, l, e)
	}
	return b
}

func deadlines(t *testing.T, c *warn.Centre, l ...warn.State) []int {
	t.Helper()
	out, e := c.Deadlines(l)
	if e != api.OK {
		t.Fatal(l, e)
	}
	return out
}

// same says whether two bulletins are the same: no items are the same as nil.
func same(a, b warn.Bulletin) bool {
	areSame := slices.Equal(a.Items, b.Items)
	a.Items, b.Items = nil, nil
	return areSame && reflect.DeepEqual(a, b)
}

func isZero(b warn.Bulletin) bool { return same(b, warn.Bulletin{}) }

// names and badNames are strings that are names, and that are not.
func names() []string {
	return []string{"a", "z", "bay", "a1", "z9_", "a_", "a0123456789_", "abcdefghijkl", "never", "end"}
}

func badNames() []string {
	return []string{
		"", " ", "A", "Z", "0", "9", "_", "0a", "_a", "Bay", "bAy", "baY", "b y", " bay", "bay ", "bay\n", "\nbay", "b-y", "b.y", "b/y", "b:y", "b`y", "b{y", "b@y", "b[y", "b^y", "bay\x00", "\x00", "b\xff", "bäy", "ä", "\u0660", "a\u0660", "²",
		"abcdefghijklm", strings.Repeat("a", 13), strings.Repeat("a", 70000), "`", "{",
	}
}

// badNumbers are numbers that are not from least to greatest.
func badNumbers(least, greatest int) []int {
	return []int{least - 1, greatest + 1, math.MinInt, math.MaxInt, math.MinInt + 1, -1 << 40, 1<<40 + 1, 1 << 62, -greatest - 1}
}

// badStates are states that are not as the chapter says.
func badStates() []warn.State {
	var l []warn.State
	for _, n := range append(badNumbers(0, api.MaxTime), api.Never-1) {
		l = append(l, state(sp(n), sp(0)), state(sp(n, api.Never), sp(0)), state(sp(0, n), sp(0)), state(sp(api.MaxTime, n), sp(0)), state(sp(n, api.MaxTime), sp(0)))
	}
	for _, arrive := range []api.Span{sp(1, 0), sp(api.MaxTime, api.MaxTime-1), sp(api.Never, 0), sp(api.Never, api.MaxTime), sp(7, 6)} {
		l = append(l, state(arrive, sp(0)))
	}
	for _, n := range append(badNumbers(0, 1000000), api.Never) {
		l = append(l, state(sp(5), sp(n)), state(sp(5), sp(n, 1000000)), state(sp(5), sp(0, n)), state(sp(api.Never), sp(n)))
	}
	return append(l, state(sp(5), sp(1, 0)), state(sp(api.Never), sp(1000000, 999999)))
}

// goodStates are states at the ends of what they can be.
func goodStates() []warn.State {
	var l []warn.State
	for _, arrive := range []api.Span{sp(0), sp(0, 1), sp(api.MaxTime), sp(0, api.MaxTime), sp(0, api.Never), sp(api.MaxTime, api.Never), sp(api.Never)} {
		for _, rise := range []api.Span{sp(0), sp(1000000), sp(0, 1000000), sp(999999, 1000000), sp(7)} {
			l = append(l, state(arrive, rise))
		}
	}
	return l
}

// isFair says by the chapter whether a state is as it says.
func isFair(x warn.State) bool {
	isTime := func(t int) bool { return t >= 0 && t <= 1000000000 || t == 1<<40 }
	return isTime(x.Arrive.Lo) && isTime(x.Arrive.Hi) && x.Arrive.Lo <= x.Arrive.Hi && 0 <= x.Rise.Lo && x.Rise.Lo <= x.Rise.Hi && x.Rise.Hi <= 1000000
}

// The states of these tests are what they are said to be.
func TestStatesOfTests(t *testing.T) {
	for _, x := range badStates() {
		if isFair(x) {
			t.Error("not bad:", x)
		}
	}
	for _, x := range goodStates() {
		if !isFair(x) {
			t.Error("not good:", x)
		}
	}
}

// The limits, stages and reasons are those of the chapter.
func TestConstants(t *testing.T) {
	got := []int{warn.MaxRegions, warn.MaxHeight, warn.MaxLead, warn.MaxTail, warn.MaxNumber, warn.MaxCentres, warn.None, warn.Notice, warn.Alert, warn.Warning, warn.First, warn.Raised, warn.Kept, warn.Less, warn.Passed}
	want := []int{64, 100000, 100000000, 100000000, 1000000, 64, 0, 1, 2, 3, 1, 2, 3, 4, 5}
	if !slices.Equal(got, want) {
		t.Error(got)
	}
}

// checkRegions checks the error of CheckRegions, and that New has the same.
func checkRegions(t *testing.T, k any, l []warn.Region, want api.Errno) {
	t.Helper()
	if e := warn.CheckRegions(l); e != want {
		t.Error("CheckRegions", k, e, want)
	}
	for _, tail := range []int{0, -1} {
		wantNew := want
		if want == api.OK && tail < 0 {
			wantNew = api.ErrRange
		}
		if c, e := warn.New("a", "b", l, tail); e != wantNew || (c != nil) != (e == api.OK) {
			t.Error("New", k, c, e, wantNew)
		}
	}
}

// P7.1: regions at the ends of what they can be.
func TestGoodRegions(t *testing.T) {
	checkRegions(t, "nil", nil, api.OK)
	checkRegions(t, "empty", []warn.Region{}, api.OK)
	var named []warn.Region
	for _, name := range names() {
		named = append(named, region(name))
	}
	checkRegions(t, "names", named, api.OK)
	for _, heights := range [][3]int{{1, 1, 1}, {1, 1, 100000}, {100000, 100000, 100000}, {1, 100000, 100000}, {5, 6, 6}} {
		for _, leads := range [][3]int{{}, {100000000, 100000000, 100000000}, {100000000, 0, 5}, {0, 0, 1}} {
			checkRegions(t, heights, []warn.Region{{"a", heights, leads}, bay()}, api.OK)
		}
	}
}

// badRegion is a region that is not as stated, behind one with the name `bay`.
type badRegion struct {
	r warn.Region
	e api.Errno
}

// badRegions are regions with an error, and with another one that is named behind it.
func badRegions() []badRegion {
	var l []badRegion
	add := func(e api.Errno, change func(*warn.Region)) {
		r := region("a")
		change(&r)
		l = append(l, badRegion{r, e})
	}
	for _, name := range badNames() {
		add(api.ErrName, func(r *warn.Region) { r.Name = name })
		add(api.ErrName, func(r *warn.Region) { *r = warn.Region{Name: name} })
	}
	add(api.ErrHave, func(r *warn.Region) { r.Name = "bay" })
	add(api.ErrHave, func(r *warn.Region) { *r = warn.Region{Name: "bay"} })
	for i := range 3 {
		for _, n := range badNumbers(1, 100000) {
			add(api.ErrRange, func(r *warn.Region) { r.Heights[i] = n })
		}
		for _, n := range badNumbers(0, 100000000) {
			add(api.ErrRange, func(r *warn.Region) { r.Leads[i] = n })
			add(api.ErrRange, func(r *warn.Region) { r.Heights, r.Leads[i] = [3]int{3, 2, 1}, n })
		}
	}
	add(api.ErrRange, func(r *warn.Region) { r.Heights = [3]int{3, 2, 0} })
	add(api.ErrRange, func(r *warn.Region) { r.Heights = [3]int{100001, 2, 1} })
	for _, heights := range [][3]int{{2, 1, 3}, {1, 3, 2}, {3, 2, 1}, {2, 1, 1}, {100000, 99999, 100000}, {1, 1000, 999}, {2, 2, 1}, {2, 1, 2}} {
		add(api.ErrArg, func(r *warn.Region) { r.Heights = heights })
	}
	return l
}

// P7.1, R1, R2, R6: the first region with an error decides, and of its errors that named first.
func TestBadRegions(t *testing.T) {
	l := badRegions()
	for k, bad := range l {
		checkRegions(t, k, []warn.Region{bay(), bad.r}, bad.e)
		checkRegions(t, k, []warn.Region{region("b"), bay(), region("c"), bad.r, {}}, bad.e)
		other := l[(k+7)%len(l)]
		checkRegions(t, k, []warn.Region{bay(), bad.r, other.r, bay()}, bad.e)
	}
}

// P7.1, R7: at most 64 regions, whatever is in them.
func TestManyRegions(t *testing.T) {
	checkRegions(t, 64, regions(64), api.OK)
	checkRegions(t, 65, regions(65), api.ErrMany)
	checkRegions(t, "bad", make([]warn.Region, 65), api.ErrMany)
	checkRegions(t, "not so many", make([]warn.Region, 64), api.ErrName)
	checkRegions(t, "twice", append(regions(63), region("r0")), api.ErrHave)
	checkRegions(t, "last", append(regions(63), region("Z")), api.ErrName)
}

// P7.1, R1, R2: New looks at the names of the centre and the event, at the regions, and then at the tail.
func TestNew(t *testing.T) {
	for _, name := range names() {
		if c, e := warn.New(name, "e1", nil, 0); e != api.OK || c == nil {
			t.Error(name, e)
		}
		if c, e := warn.New("e1", name, nil, 100000000); e != api.OK || c == nil {
			t.Error(name, e)
		}
	}
	lists := [][]warn.Region{nil, {bay()}, {{}}, make([]warn.Region, 65), {bay(), bay()}}
	for _, name := range badNames() {
		for k, l := range lists {
			for _, tail := range []int{0, -1} {
				for _, x := range [][2]string{{name, "e1"}, {"west", name}, {name, name}} {
					if c, e := warn.New(x[0], x[1], l, tail); e != api.ErrName || c != nil {
						t.Error(x, k, tail, e)
					}
				}
			}
		}
	}
	for _, tail := range badNumbers(0, 100000000) {
		if c, e := warn.New("west", "e1", []warn.Region{bay()}, tail); e != api.ErrRange || c != nil {
			t.Error(tail, e)
		}
		if c, e := warn.New("west", "e1", []warn.Region{bay(), bay()}, tail); e != api.ErrHave || c != nil {
			t.Error(tail, e)
		}
	}
}

// P7.1: a new centre has not issued anything.
func TestNewCentre(t *testing.T) {
	c := centre(t, 0, regions(3)...)
	if !slices.Equal(c.Stages(), []int{warn.None, warn.None, warn.None}) {
		t.Error(c.Stages())
	}
	b := issue(t, c, 0, none(), none(), none())
	if b.Number != 1 || b.Centre != "west" || b.Event != "e1" || b.Items[2].Reason != warn.First {
		t.Error(b)
	}
	if l := centre(t, 0).Stages(); len(l) != 0 {
		t.Error(l)
	}
}

// randomState is a state with numbers up to a limit, often with ends that are the same or Never.
func randomState(r *rand.Rand, limit int) warn.State {
	x := state(randomSpan(r, sp(0, limit)), randomSpan(r, sp(0, limit)))
	switch r.IntN(6) {
	case 0:
		x.Arrive.Hi = api.Never
	case 1:
		x.Arrive = sp(api.Never)
	}
	return x
}

// randomSpan is a random span within another one, often with an end of it, and often a point.
func randomSpan(r *rand.Rand, s api.Span) api.Span {
	lo := s.Lo + r.IntN(s.Hi-s.Lo+1)
	if r.IntN(4) == 0 {
		lo = s.Lo
	}
	hi := lo + r.IntN(s.Hi-lo+1)
	switch r.IntN(4) {
	case 0:
		hi = s.Hi
	case 1:
		hi = lo
	}
	return sp(lo, hi)
}
