package warn_test

import (
	"math"
	"slices"
	"testing"

	"tidewall/api"
	"tidewall/warn"
)

// P0 and R5: whatever integers they are given, all functions end without a panic, and never take what is out of range for valid.
func TestAnyIntegers(t *testing.T) {
	r := dice(60)
	odd := []int{math.MinInt, math.MinInt + 1, -1 << 40, -1, 0, 0, 1, 2, 3, 4, 5, 6, 64, 65, 99999, 100000, 100001, 999999, 1000000, 1000001, 100000000, 100000001, 1000000000, 1000000001, 1 << 32, 1<<40 - 1, 1 << 40, 1<<40 + 1, 1 << 62, math.MaxInt - 1, math.MaxInt}
	number := func(least, greatest int) int {
		if r.IntN(40) > 0 {
			return least + r.IntN(greatest-least+1)
		}
		return odd[r.IntN(len(odd))]
	}
	// above is a number that is mostly not below another one.
	above := func(n, greatest int) int { return number(min(max(n, 0), greatest), greatest) }
	isIn := func(n, least, greatest int) bool { return n >= least && n <= greatest }
	first := func(l ...api.Errno) api.Errno {
		i := slices.IndexFunc(l, func(e api.Errno) bool { return e != api.OK })
		if i < 0 {
			return api.OK
		}
		return l[i]
	}
	unless := func(holds bool, e api.Errno) api.Errno {
		if holds {
			return api.OK
		}
		return e
	}
	valid := 0
	for range 30000 {
		height := number(1, 100000)
		region := warn.Region{Name: "r", Heights: [3]int{height, above(height, 100000), number(100000, 100000)}, Leads: [3]int{number(0, 100000000), number(0, 100000000), number(0, 100000000)}}
		tail, now := number(0, 100000000), number(0, 1000000000)
		lo := number(0, 1000000000)
		low := number(0, 1000000)
		x := state(sp(lo, above(lo, 1000000000)), sp(low, above(low, 1000000)))
		if r.IntN(4) == 0 {
			x.Arrive.Hi = api.Never
		}
		b := warn.Bulletin{Centre: "a", Event: "b", Number: number(1, 1000000), Time: number(0, 1000000000), Items: []warn.Item{{Region: "r", Stage: number(0, 3), Reason: number(1, 5), Arrive: x.Arrive, Rise: x.Rise}}}

		areNumbers := true
		for i := range 3 {
			areNumbers = areNumbers && isIn(region.Heights[i], 1, 100000) && isIn(region.Leads[i], 0, 100000000)
		}
		badRegion := first(unless(areNumbers, api.ErrRange), unless(region.Heights[0] <= region.Heights[1] && region.Heights[1] <= region.Heights[2], api.ErrArg))
		badTail, badNow := unless(isIn(tail, 0, 100000000), api.ErrRange), unless(isIn(now, 0, 1000000000), api.ErrRange)
		badState := unless(isFair(x), api.ErrRange)
		badHead := unless(isIn(b.Number, 1, 1000000) && isIn(b.Time, 0, 1000000000), api.ErrRange)
		badBulletin := first(badHead, unless(isIn(b.Items[0].Stage, 0, 3) && isIn(b.Items[0].Reason, 1, 5), api.ErrArg), badState)

		c, made := warn.New("a", "b", []warn.Region{region}, tail)
		notMade := unless(made == api.OK, api.ErrNil)
		last, deadlines := c.Deadlines([]warn.State{x})
		issued, issue := c.Issue(now, []warn.State{x})
		s, write := warn.Write(b)
		read, _ := warn.Read(s)
		got := []api.Errno{warn.CheckRegions([]warn.Region{region}), made, deadlines, issue, warn.CheckBulletin(b), write, warn.NewBoard().Take(b)}
		want := []api.Errno{badRegion, first(badRegion, badTail), first(notMade, badState), first(notMade, badNow, badState), badBulletin, badBulletin, badBulletin}
		if !slices.Equal(got, want) {
			t.Error(region, tail, now, x, b, got, want)
		}
		if write == api.OK && !same(read, b) {
			t.Error(s, read)
		}
		if issue != api.OK {
			continue
		}
		valid++
		if e := warn.CheckBulletin(issued); e != api.OK {
			t.Error(issued, e)
		}
		m := model{regions: []warn.Region{region}, tail: tail, stages: []int{0}}
		if want := m.deadlines([]warn.State{x}); !slices.Equal(last, want) {
			t.Error(region, x, last, want)
		}
		if item := m.issue(now, []warn.State{x}).Items[0]; issued.Items[0] != item {
			t.Error(issued, item)
		}
	}
	if valid < 3000 {
		t.Error("few of the calls were valid:", valid)
	}
}

// P7.3: what a centre issues is a valid bulletin, whose text is read again.
func TestIssuedAreValid(t *testing.T) {
	r := dice(61)
	for k := range 500 {
		c := centre(t, r.IntN(50), smallRegion(r, "r", 20), smallRegion(r, "s", 20))
		for now := range 5 {
			b := issue(t, c, 9*now, randomState(r, 40), randomState(r, 40))
			s, e := warn.Write(b)
			if e != api.OK || s != textOf(b) {
				t.Error(k, b, s, e)
			}
			if x, e := warn.Read(s); e != api.OK || !same(x, b) {
				t.Error(k, b, x, e)
			}
		}
	}
}

// R4: no call changes its arguments.
func TestArgumentsStay(t *testing.T) {
	l := []warn.Region{bay(), region("sea"), region("bay")}
	states := []warn.State{state(sp(5000000, 7000000), sp(0, 300)), none(), state(sp(1, 0), sp(0))}
	items := []warn.Item{item("bay"), item("sea"), item("bay")}
	wantL, wantStates, wantItems := slices.Clone(l), slices.Clone(states), slices.Clone(items)
	board := warn.NewBoard()
	for n := range 4 {
		warn.CheckRegions(l[:n])
		warn.New("west", "e1", l[:n], 0)
		c := centre(t, 0, l[:2]...)
		c.Deadlines(states[:n])
		c.Issue(0, states[:n])
		warn.CheckBulletin(bulletin(items[:n]...))
		warn.Write(bulletin(items[:n]...))
		board.Take(warn.Bulletin{Centre: "a", Event: "b", Number: 1 + n, Items: items[:n]})
	}
	if !slices.Equal(l, wantL) || !slices.Equal(states, wantStates) || !slices.Equal(items, wantItems) {
		t.Error(l, states, items)
	}
}

// R3: nil and empty lists are the same.
func TestNilIsEmpty(t *testing.T) {
	for k, empty := range []bool{false, true} {
		var l []warn.Region
		var states []warn.State
		var items []warn.Item
		if empty {
			l, states, items = []warn.Region{}, []warn.State{}, []warn.Item{}
		}
		c := centre(t, 0, l...)
		if out, e := c.Deadlines(states); e != api.OK || len(out) != 0 {
			t.Error(k, out, e)
		}
		if b, e := c.Issue(7, states); e != api.OK || b.Number != 1 || b.Time != 7 || len(b.Items) != 0 {
			t.Error(k, b, e)
		}
		if len(c.Stages()) != 0 || c.Copy() == nil {
			t.Error(k, c.Stages())
		}
		if s, e := warn.Write(bulletin(items...)); e != api.OK || s != "BULLETIN a b 1 0\nEND 39762\n" {
			t.Error(k, s, e)
		}
		if e := warn.NewBoard().Take(bulletin(items...)); e != api.OK {
			t.Error(k, e)
		}
		if _, e := west(t).Issue(0, states); e != api.ErrShape {
			t.Error(k, e)
		}
	}
}

// Nothing depends on what was called before, nor on how maps are gone through; the same call has the same result, also in several goroutines.
func TestSameCallSameResult(t *testing.T) {
	r := dice(62)
	var all []warn.Bulletin
	for range 40 {
		all = append(all, randomBulletin(r))
	}
	texts := func() []string {
		var out []string
		b := warn.NewBoard()
		for _, x := range all {
			s, _ := warn.Write(x)
			x, _ = warn.Read(s)
			b.Take(x)
			out = append(out, s)
		}
		for _, region := range b.Regions() {
			_, centres, _ := b.Stage(region)
			out = append(append(out, region), centres...)
		}
		return out
	}
	want := texts()
	done := make(chan []string)
	for range 8 {
		go func() { done <- texts() }()
	}
	for range 8 {
		if got := <-done; !slices.Equal(got, want) {
			t.Error("another result")
		}
	}
}
