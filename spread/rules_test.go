package spread_test

import (
	"math"
	"reflect"
	"slices"
	"testing"

	"tidewall/api"
	"tidewall/spread"
)

// args are the arguments of all functions.
type args struct {
	n                spread.Net
	s                spread.Start
	failed, doubtful []int
	tests            []spread.Test
	now, age         int
	states           []int
	f                int
	dues             []spread.Due // of which functions with one due get the first one
	receipts         []spread.Receipt
	until            int
}

// rightArgs are those of the chapter's examples.
func rightArgs() args {
	return args{
		n: exampleN(), s: exampleS(), failed: []int{0}, doubtful: []int{1}, tests: []spread.Test{good(0, 50), bad(1, 60)}, now: 100, age: 40,
		states: []int{1, 2, 1}, f: 1, dues: []spread.Due{{Node: 3, By: 150}}, receipts: got(100, -1, 130, 140), until: 200,
	}
}

// outcome is an error, with all else that a call returns.
type outcome struct {
	e   api.Errno
	all []any
}

func (o outcome) isZero() bool {
	for _, x := range o.all {
		v := reflect.ValueOf(x)
		if v.Kind() == reflect.Slice && v.Len() > 0 || v.Kind() != reflect.Slice && !v.IsZero() {
			return false
		}
	}
	return true
}

// face is a function, with the parts of its arguments in the order in which their errors come.
type face struct {
	name  string
	parts []string
	call  func(args) outcome
}

func faces() []face {
	return []face{
		{"Check", []string{"size", "count", "links"}, func(a args) outcome {
			return outcome{e: spread.Check(a.n)}
		}},
		{"Reach", []string{"size", "count", "links", "node", "time", "failed", "doubtful"}, func(a args) outcome {
			l, e := spread.Reach(a.n, a.s, a.failed, a.doubtful)
			return outcome{e, []any{l}}
		}},
		{"States", []string{"size", "count", "links", "tests", "now"}, func(a args) outcome {
			l, e := spread.States(a.n, a.tests, a.now, a.age)
			return outcome{e, []any{l}}
		}},
		{"Worst", []string{"size", "count", "links", "node", "time", "states", "f"}, func(a args) outcome {
			l, e := spread.Worst(a.n, a.s, a.states, a.f)
			return outcome{e, []any{l}}
		}},
		{"Meets", []string{"size", "count", "links", "node", "time", "states", "f", "many dues", "due"}, func(a args) outcome {
			l, e := spread.Meets(a.n, a.s, a.states, a.f, a.dues)
			return outcome{e, []any{l}}
		}},
		{"Blame", []string{"size", "count", "links", "node", "time", "states", "f", "due"}, func(a args) outcome {
			l, is, e := spread.Blame(a.n, a.s, a.states, a.f, a.dues[0])
			return outcome{e, []any{l, is}}
		}},
		{"Strong", []string{"size", "count", "links", "node", "time", "states", "due"}, func(a args) outcome {
			n, e := spread.Strong(a.n, a.s, a.states, a.dues[0])
			return outcome{e, []any{n}}
		}},
		{"Needed", []string{"size", "count", "links", "node", "time", "states", "due"}, func(a args) outcome {
			l, e := spread.Needed(a.n, a.s, a.states, a.dues[0])
			return outcome{e, []any{l}}
		}},
		{"Diagnose", []string{"size", "count", "links", "node", "time", "until", "receipts"}, func(a args) outcome {
			up, down, e := spread.Diagnose(a.n, a.s, a.receipts, a.until)
			return outcome{e, []any{up, down}}
		}},
	}
}

// fault is a part of the arguments that is wrong, with its error.
type fault struct {
	part string
	e    api.Errno
	set  func(*args)
}

// faults are some of each part.
func faults() []fault {
	var l []fault
	add := func(part string, e api.Errno, set func(*args)) { l = append(l, fault{part, e, set}) }
	for _, x := range badNumbers(1, 64) {
		add("size", api.ErrRange, func(a *args) { a.n.Nodes = x })
	}
	for _, x := range badNumbers(0, 20) {
		add("size", api.ErrRange, func(a *args) { a.n.Units = x })
	}
	add("count", api.ErrMany, func(a *args) { a.n.Links = slices.Repeat(exampleN().Links, 60) })
	add("count", api.ErrMany, func(a *args) { a.n.Links = make([]spread.Link, 257) })
	add("links", api.ErrNone, func(a *args) { a.n.Links = append(exampleN().Links, sure(0, 4, sp(5), 0)) })
	add("links", api.ErrNone, func(a *args) { a.n.Links = append(exampleN().Links, sure(0, 1, sp(5), 3)) })
	add("links", api.ErrArg, func(a *args) { a.n.Links = append(exampleN().Links, sure(2, 2, sp(5), 0)) })
	add("links", api.ErrRange, func(a *args) { a.n.Links = append(exampleN().Links, sure(2, 3, sp(5, 4), 0)) })
	for _, x := range badNumbers(0, 3) {
		add("node", api.ErrNone, func(a *args) { a.s.Node = x })
		add("due", api.ErrNone, func(a *args) { a.dues = []spread.Due{{Node: x, By: 5}, {}} })
		add("due", api.ErrNone, func(a *args) { a.dues = []spread.Due{{Node: x, By: -1}} })
		add("f", api.ErrRange, func(a *args) { a.f = x })
		add("receipts", api.ErrNone, func(a *args) { a.receipts = append(got(100), spread.Receipt{Node: x}) })
	}
	for _, x := range badTimes() {
		add("time", api.ErrRange, func(a *args) { a.s.Time = x })
	}
	for _, x := range badNumbers(0, 2) {
		add("failed", api.ErrNone, func(a *args) { a.failed = []int{0, x} })
		add("doubtful", api.ErrNone, func(a *args) { a.doubtful = []int{x, 0} })
		add("tests", api.ErrNone, func(a *args) { a.tests = []spread.Test{good(0, 5), good(x, 5)} })
	}
	for _, x := range badNumbers(0, 1000000000) {
		add("tests", api.ErrRange, func(a *args) { a.tests = []spread.Test{good(2, x), good(3, 5)} })
		add("now", api.ErrRange, func(a *args) { a.now = x })
		add("now", api.ErrRange, func(a *args) { a.age = x })
		add("until", api.ErrRange, func(a *args) { a.until = x })
	}
	add("tests", api.ErrMany, func(a *args) { a.tests = slices.Repeat([]spread.Test{bad(3, -1)}, 1025) })
	for _, x := range [][]int{nil, {1, 1}, {1, 1, 1, 1}, {0, 4}} {
		add("states", api.ErrShape, func(a *args) { a.states = x })
	}
	for _, x := range badNumbers(1, 3) {
		add("states", api.ErrArg, func(a *args) { a.states = []int{1, 2, x} })
	}
	for _, x := range badNumbers(0, api.Never) {
		add("due", api.ErrRange, func(a *args) { a.dues = []spread.Due{{Node: 3, By: x}, {Node: -1}} })
	}
	add("many dues", api.ErrMany, func(a *args) { a.dues = make([]spread.Due, 65) })
	add("receipts", api.ErrHave, func(a *args) { a.receipts = append(got(100), got(100)...) })
	add("receipts", api.ErrRange, func(a *args) { a.receipts = got(100, -1, 201) })
	add("receipts", api.ErrArg, func(a *args) { a.receipts = got(-1, -1, 130) })
	add("receipts", api.ErrConflict, func(a *args) { a.receipts = got(100, -1, 130, 161) })
	return l
}

// R1, R2: of two parts of the arguments that are wrong the one named first decides, with zero values beside the error; what a function does not have does not matter to it.
func TestOrderOfErrors(t *testing.T) {
	all := faults()
	for _, x := range faces() {
		if o := x.call(rightArgs()); o.e != api.OK {
			t.Error(x.name, o)
		}
		for _, first := range all {
			for _, second := range all {
				a := rightArgs()
				// What is set last stays, where both set the same.
				first.set(&a)
				second.set(&a)
				want, place := api.OK, len(x.parts)
				for _, f := range []fault{first, second} {
					if i := slices.Index(x.parts, f.part); i >= 0 && i < place {
						want, place = f.e, i
					}
				}
				if first.part == second.part || isHidden(first.part, second.part) {
					continue
				}
				if o := x.call(a); o.e != want || want != api.OK && !o.isZero() {
					t.Error(x.name, first.part, second.part, a, o, want)
				}
			}
		}
	}
}

// isHidden says whether two parts are set in the same place, so that only one of them stays.
func isHidden(a, b string) bool {
	for _, l := range [][]string{{"count", "links"}, {"many dues", "due"}} {
		if slices.Contains(l, a) && slices.Contains(l, b) {
			return true
		}
	}
	return false
}

// P0 and R5: whatever integers they are given, all functions end without a panic, and never take what is out of range for valid.
func TestAnyIntegers(t *testing.T) {
	r := dice(60)
	odd := []int{math.MinInt, math.MinInt + 1, -1 << 40, -2, -1, 0, 0, 1, 2, 3, 4, 5, 19, 20, 21, 63, 64, 65, 256, 257, 999999999, 1000000000, 1000000001, 1 << 32, 1<<40 - 1, 1 << 40, 1<<40 + 1, 1 << 62, math.MaxInt - 1, math.MaxInt}
	number := func(least, greatest int) int {
		if r.IntN(40) > 0 {
			return least + r.IntN(greatest-least+1)
		}
		return odd[r.IntN(len(odd))]
	}
	isIn := func(n, least, greatest int) bool { return n >= least && n <= greatest }
	isTime := func(s api.Span) bool { return s.Lo >= 0 && s.Lo <= s.Hi && s.Hi <= 1000000000 }
	unless := func(holds bool, e api.Errno) api.Errno {
		if holds {
			return api.OK
		}
		return e
	}
	first := func(l ...api.Errno) api.Errno {
		i := slices.IndexFunc(l, func(e api.Errno) bool { return e != api.OK })
		if i < 0 {
			return api.OK
		}
		return l[i]
	}
	counts := map[api.Errno]int{}
	for range 30000 {
		times := func() api.Span { return sp(number(0, 500000000), number(500000000, 1000000000)) }
		l := spread.Link{From: number(0, 0), To: number(1, 1), Delay: times(), Unit: number(-1, 1), Sure: r.IntN(2) == 0}
		n := network(number(2, 64), number(2, 20), l, sure(0, 1, sp(7), 0))
		a := args{n: n, s: start(number(0, 1), times()), failed: []int{number(0, 1)}, doubtful: []int{number(0, 1)}}
		a.tests, a.now, a.age = []spread.Test{good(number(0, 1), number(0, 1000000000))}, number(0, 1000000000), number(0, 1000000000)
		if isIn(n.Units, 0, 20) {
			a.states = fine(n.Units + r.IntN(20)/19)
		}
		if len(a.states) > 0 {
			a.states[0] = number(1, 3)
		}
		a.f, a.dues = number(0, 3), []spread.Due{{Node: number(0, 1), By: number(0, api.Never)}}
		a.until = number(0, 1000000000)
		a.receipts = []spread.Receipt{{Node: number(1, 1), Time: number(0, 1000000000)}}

		unit := func(unit int) bool { return isIn(unit, 0, n.Units-1) }
		node := func(node int) bool { return isIn(node, 0, n.Nodes-1) }
		bad := first(unless(isIn(n.Nodes, 1, 64) && isIn(n.Units, 0, 20), api.ErrRange),
			unless(node(l.From) && node(l.To) && (l.Unit == -1 || unit(l.Unit)), api.ErrNone), unless(l.From != l.To, api.ErrArg), unless(isTime(l.Delay), api.ErrRange),
			unless(node(1) && unit(0), api.ErrNone))
		begin := first(bad, unless(node(a.s.Node), api.ErrNone), unless(isTime(a.s.Time), api.ErrRange))
		states := first(begin, unless(len(a.states) == n.Units, api.ErrShape))
		if states == api.OK {
			states = unless(isIn(a.states[0], 1, 3), api.ErrArg)
		}
		f := first(states, unless(isIn(a.f, 0, 3), api.ErrRange))
		due := first(unless(node(a.dues[0].Node), api.ErrNone), unless(isIn(a.dues[0].By, 0, api.Never), api.ErrRange))
		x := a.receipts[0]
		receipts := first(begin, unless(isIn(a.until, 0, 1000000000), api.ErrRange), unless(node(x.Node), api.ErrNone), unless(isIn(x.Time, 0, a.until), api.ErrRange), unless(x.Node == a.s.Node, api.ErrArg))
		if receipts == api.OK {
			_, _, receipts = diagnose(n, a.s, a.receipts, a.until)
		}
		want := []api.Errno{
			bad, first(begin, unless(unit(a.failed[0]) && unit(a.doubtful[0]), api.ErrNone)),
			first(bad, unless(unit(a.tests[0].Unit), api.ErrNone), unless(isIn(a.tests[0].Time, 0, 1000000000) && isIn(a.now, 0, 1000000000) && isIn(a.age, 0, 1000000000), api.ErrRange)),
			f, first(f, due), first(f, due), first(states, due), first(states, due), receipts,
		}
		for i, x := range faces() {
			if x.name != "Check" && n.Units > 5 && want[i] == api.OK && r.IntN(20) > 0 {
				continue
			}
			o := x.call(a)
			if o.e != want[i] || o.e != api.OK && !o.isZero() {
				t.Error(x.name, a, o, want[i])
			}
			counts[o.e]++
		}
	}
	for _, e := range []api.Errno{api.OK, api.ErrArg, api.ErrRange, api.ErrNone, api.ErrShape, api.ErrConflict} {
		if counts[e] < 100 {
			t.Error("few cases:", counts)
		}
	}
}

// P0: lists that are long, where no limit is stated.
func TestLongLists(t *testing.T) {
	long := slices.Repeat([]int{0, 2}, 100000)
	expectReach(t, "long", exampleN(), exampleS(), long, long, sp(100), never(), sp(105, 150), never())
	l := slices.Repeat([]spread.Receipt{{Node: 0, Time: 100}}, 100000)
	if _, _, e := spread.Diagnose(exampleN(), exampleS(), l, 200); e != api.ErrHave {
		t.Error(e)
	}
	if _, e := spread.Worst(exampleN(), exampleS(), long, 0); e != api.ErrShape {
		t.Error(e)
	}
}

// withTails has lists that go on behind their ends, which no call may write to.
func withTails(a args) args {
	a.n.Links = append(slices.Clone(a.n.Links), sure(7, 7, sp(7), 7), sure(8, 8, sp(8), 8))[:len(a.n.Links)]
	a.failed = append(slices.Clone(a.failed), 7, 8)[:len(a.failed)]
	a.doubtful = append(slices.Clone(a.doubtful), 7, 8)[:len(a.doubtful)]
	a.tests = append(slices.Clone(a.tests), good(7, 7), good(8, 8))[:len(a.tests)]
	a.states = append(slices.Clone(a.states), 7, 8)[:len(a.states)]
	a.dues = append(slices.Clone(a.dues), spread.Due{Node: 7}, spread.Due{Node: 8})[:len(a.dues)]
	a.receipts = append(slices.Clone(a.receipts), spread.Receipt{Node: 7}, spread.Receipt{Node: 8})[:len(a.receipts)]
	return a
}

func tails(a args) []any {
	return []any{
		a.n.Links[:len(a.n.Links)+2], a.failed[:len(a.failed)+2], a.doubtful[:len(a.doubtful)+2], a.tests[:len(a.tests)+2],
		a.states[:len(a.states)+2], a.dues[:len(a.dues)+2], a.receipts[:len(a.receipts)+2],
	}
}

// randomArgs are without an error, but perhaps for a conflict.
func randomArgs(n spread.Net, seed uint64) args {
	r := dice(seed)
	a := args{n: n, s: randomStart(r, n, 20), failed: randomUnits(r, n), doubtful: randomUnits(r, n), states: randomStates(r, n.Units), f: r.IntN(4), now: 10, age: 5, until: 50}
	for range 5 {
		a.dues = append(a.dues, spread.Due{Node: r.IntN(n.Nodes), By: r.IntN(50)})
		if n.Units > 0 {
			a.tests = append(a.tests, spread.Test{Unit: r.IntN(n.Units), Time: r.IntN(12), Good: r.IntN(2) == 0})
		}
	}
	times := randomTruth(r, n, a.s, a.failed).times(n, a.s)
	for _, node := range r.Perm(n.Nodes) {
		if times[node] <= a.until {
			a.receipts = append(a.receipts, spread.Receipt{Node: node, Time: times[node]})
		}
	}
	return a
}

// outcomes are those of all functions.
func outcomes(a args) []outcome {
	var l []outcome
	for _, x := range faces() {
		l = append(l, x.call(a))
	}
	return l
}

// R4: no call changes its arguments, nor what lies behind them; and the same call has the same result.
func TestArgumentsStay(t *testing.T) {
	r := dice(61)
	for k := range 1000 {
		a := withTails(randomArgs(randomNet(r, 6, 5, 14, 9), uint64(k)))
		want := tails(withTails(a))
		before, after := outcomes(a), outcomes(a)
		if !reflect.DeepEqual(tails(a), want) {
			t.Error(k, a)
		}
		if !reflect.DeepEqual(before, after) {
			t.Error(k, before, after)
		}
		for _, o := range before {
			if o.e != api.OK {
				t.Error(k, a, o)
			}
		}
	}
}

// R4: results share no memory with arguments, nor with later results, nor with each other.
func TestResultsAreNew(t *testing.T) {
	a := rightArgs()
	want := outcomes(a)
	for range 2 {
		l := outcomes(a)
		if !reflect.DeepEqual(l, want) || !reflect.DeepEqual(a, rightArgs()) {
			t.Error(l, want, a)
		}
		for _, o := range l {
			for _, x := range o.all {
				if v := reflect.ValueOf(x); v.Kind() == reflect.Slice {
					v.Clear()
				}
			}
		}
	}
	l := []spread.Receipt{{Node: 0, Time: 100}, {Node: 2, Time: 130}}
	up, down, e := spread.Diagnose(exampleN(), exampleS(), l, 200)
	if e != api.OK || !slices.Equal(up, []int{1}) || !slices.Equal(down, []int{0, 2}) {
		t.Fatal(up, down, e)
	}
	_ = append(up, 7, 8, 9)
	if !slices.Equal(down, []int{0, 2}) {
		t.Error(down)
	}
}

// R3: nil and empty lists are the same.
func TestNilIsEmpty(t *testing.T) {
	empty := args{
		n: spread.Net{Nodes: 1, Links: []spread.Link{}}, failed: []int{}, doubtful: []int{}, tests: []spread.Test{}, states: []int{},
		dues: []spread.Due{{By: 5}}, receipts: []spread.Receipt{},
	}
	for k, a := range []args{empty, {n: spread.Net{Nodes: 1}, dues: []spread.Due{{By: 5}}}} {
		for i, o := range outcomes(a) {
			want := api.OK
			if i == len(faces())-1 {
				want = api.ErrArg
			}
			if o.e != want {
				t.Error(k, i, o)
			}
		}
		for _, dues := range [][]spread.Due{nil, {}} {
			expectMeets(t, k, a.n, a.s, a.states, 0, dues)
		}
		a.receipts = got(0)
		expectRun(t, k, a.n, a.s, a.receipts, 0, nil, nil)
		expectReach(t, k, a.n, a.s, a.failed, a.doubtful, sp(0))
		expectWorst(t, k, a.n, a.s, a.states, 3, sp(0))
		expectStrong(t, k, a.n, a.s, a.states, a.dues[0], 3)
	}
}

// Nothing depends on what was called before, nor on the order of a map; the same call has the same result, also in several goroutines.
func TestSameCallSameResult(t *testing.T) {
	r := dice(62)
	var all []args
	for k := range 50 {
		all = append(all, randomArgs(randomNet(r, 64, 6, 256, 9), uint64(k)))
	}
	results := func() [][]outcome {
		var l [][]outcome
		for _, a := range all {
			l = append(l, outcomes(a))
		}
		return l
	}
	want := results()
	done := make(chan [][]outcome)
	for range 4 {
		go func() { done <- results() }()
	}
	for range 4 {
		if l := <-done; !reflect.DeepEqual(l, want) {
			t.Error("another result")
		}
	}
}
