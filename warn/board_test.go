package warn_test

import (
	"fmt"
	"slices"
	"testing"

	"tidewall/api"
	"tidewall/warn"
)

// from is a bulletin of a centre and an event.
func from(centre, event string, number int, l ...warn.Item) warn.Bulletin {
	return warn.Bulletin{Centre: centre, Event: event, Number: number, Items: l}
}

// says is an item with a stage.
func says(region string, stage int) warn.Item {
	return warn.Item{Region: region, Stage: stage, Reason: warn.First, Arrive: sp(5)}
}

func take(t *testing.T, b *warn.Board, l ...warn.Bulletin) {
	t.Helper()
	for _, x := range l {
		if e := b.Take(x); e != api.OK {
			t.Fatal(x, e)
		}
	}
}

// expectStage checks what a board says of a region.
func expectStage(t *testing.T, b *warn.Board, region string, stage int, centres ...string) {
	t.Helper()
	if n, l, e := b.Stage(region); e != api.OK || n != stage || !slices.Equal(l, centres) {
		t.Error(region, n, l, e, "want", stage, centres)
	}
}

func expectNone(t *testing.T, b *warn.Board, regions ...string) {
	t.Helper()
	for _, region := range regions {
		if n, l, e := b.Stage(region); e != api.ErrNone || n != 0 || len(l) != 0 {
			t.Errorf("%q: %v %v %v", region, n, l, e)
		}
	}
}

func expectRegions(t *testing.T, b *warn.Board, want ...string) {
	t.Helper()
	if l := b.Regions(); !slices.Equal(l, want) {
		t.Error(l, want)
	}
}

// The example of the chapter.
func TestBoardExample(t *testing.T) {
	c := west(t)
	var l []warn.Bulletin
	for k, rise := range []int{300, 60, 250} {
		l = append(l, issue(t, c, []int{1000000, 4000000, 4500000}[k], state(sp(5000000, 7000000), sp(0, rise))))
	}
	b := warn.NewBoard()
	take(t, b, l[2])
	if e := b.Take(l[0]); e != api.ErrStale {
		t.Error(e)
	}
	expectStage(t, b, "bay", warn.Warning, "west")
	expectRegions(t, b, "bay")
}

// P7.4: a new board keeps nothing.
func TestNewBoard(t *testing.T) {
	b := warn.NewBoard()
	expectNone(t, b, "bay", "", "Bay")
	expectRegions(t, b)
	if b == warn.NewBoard() {
		t.Error("the same board")
	}
}

// P7.4: of a centre and an event the bulletin with the greatest number is kept, and nothing of those before it.
func TestGreatestNumber(t *testing.T) {
	b := warn.NewBoard()
	take(t, b, from("a", "e", 5, says("bay", warn.Warning), says("sea", warn.Notice)))
	for _, number := range []int{1, 4, 5} {
		if e := b.Take(from("a", "e", number, says("lake", warn.Warning))); e != api.ErrStale {
			t.Error(number, e)
		}
	}
	expectStage(t, b, "bay", warn.Warning, "a")
	expectNone(t, b, "lake")
	take(t, b, from("a", "e", 6, says("sea", warn.None)))
	expectStage(t, b, "sea", warn.None, "a")
	expectNone(t, b, "bay", "lake")
	expectRegions(t, b, "sea")
	take(t, b, from("a", "e", 1000000))
	expectNone(t, b, "bay", "sea")
	expectRegions(t, b)
	if e := b.Take(from("a", "e", 1000000)); e != api.ErrStale {
		t.Error(e)
	}
}

// P7.4: times do not matter, nor do numbers of other events or centres.
func TestOrigins(t *testing.T) {
	b := warn.NewBoard()
	first := from("a", "e", 2, says("bay", warn.Alert))
	first.Time = 1000
	take(t, b, first, from("a", "f", 1, says("bay", warn.Notice)), from("b", "e", 1, says("bay", warn.Notice)), from("e", "a", 1, says("bay", warn.None)))
	expectStage(t, b, "bay", warn.Alert, "a")
	// The same letters, in another centre and event.
	take(t, b, from("ab", "c", 9, says("bay", warn.Warning)), from("a", "bc", 1, says("bay", warn.Warning)))
	expectStage(t, b, "bay", warn.Warning, "a", "ab")
	take(t, b, from("a", "e", 3, says("bay", warn.None)))
	expectStage(t, b, "bay", warn.Warning, "a", "ab")
}

// P7.4: who says the stage in force of a region: all centres, ascending by bytes, each once.
func TestWhoSays(t *testing.T) {
	b := warn.NewBoard()
	for _, centre := range []string{"b", "a_", "a", "aa", "a0", "c", "z"} {
		stage := warn.Alert
		if centre >= "c" {
			stage = warn.Notice
		}
		for _, event := range []string{"e", "f", "g"} {
			take(t, b, from(centre, event, 1, says("x", warn.Warning), says("bay", stage), says(centre, warn.None)))
		}
	}
	expectStage(t, b, "bay", warn.Alert, "a", "a0", "a_", "aa", "b")
	expectStage(t, b, "x", warn.Warning, "a", "a0", "a_", "aa", "b", "c", "z")
	expectStage(t, b, "z", warn.None, "z")
	expectRegions(t, b, "a", "a0", "a_", "aa", "b", "bay", "c", "x", "z")
	// Of the events of a centre, one is enough.
	take(t, b, from("c", "f", 2, says("bay", warn.Warning)), from("c", "g", 2, says("bay", warn.None)))
	expectStage(t, b, "bay", warn.Warning, "c")
	take(t, b, from("c", "f", 3, says("bay", warn.Alert)))
	expectStage(t, b, "bay", warn.Alert, "a", "a0", "a_", "aa", "b", "c")
}

// P7.4: nobody says anything of what is no name.
func TestNoSuchRegion(t *testing.T) {
	b := warn.NewBoard()
	take(t, b, from("a", "e", 1, says("bay", warn.Warning)))
	expectNone(t, b, badNames()...)
	expectNone(t, b, "a", "e", "ba", "bayy")
}

// P7.4, R7: a board has room for 64 pairs of a centre and an event; for those that it has, there is always room.
func TestManyPairs(t *testing.T) {
	b := warn.NewBoard()
	for i := range 64 {
		take(t, b, from(fmt.Sprint("c", i/8), fmt.Sprint("e", i%8), 1, says(fmt.Sprint("r", i), warn.Notice)))
	}
	before := b.Regions()
	for _, x := range []warn.Bulletin{from("c8", "e0", 1), from("c0", "e8", 7, says("new", warn.Warning)), from("new", "new", 1)} {
		if e := b.Take(x); e != api.ErrMany {
			t.Error(x, e)
		}
	}
	if l := b.Regions(); !slices.Equal(l, before) || len(l) != 64 {
		t.Error(l)
	}
	if e := b.Take(from("c3", "e5", 1)); e != api.ErrStale {
		t.Error(e)
	}
	if e := b.Take(from("c8", "e8", 0)); e != api.ErrRange {
		t.Error(e)
	}
	take(t, b, from("c3", "e5", 2, says("new", warn.Warning)))
	expectStage(t, b, "new", warn.Warning, "c3")
	expectNone(t, b, "r29")
	for i := range 64 {
		take(t, b, from(fmt.Sprint("c", i/8), fmt.Sprint("e", i%8), 3))
	}
	expectRegions(t, b)
}

// P7.4, R1, R2: a bulletin that is not valid changes nothing, whatever its number is.
func TestTakeErrors(t *testing.T) {
	b := warn.NewBoard()
	take(t, b, from("a", "b", 5, says("bay", warn.Alert)), from("west", "e1", 1, says("sea", warn.Notice)))
	for k, bad := range badBulletins() {
		if e := b.Take(bad.b); e != bad.e {
			t.Error(k, bad.b, e)
		}
	}
	expectStage(t, b, "bay", warn.Alert, "a")
	expectStage(t, b, "sea", warn.Notice, "west")
	expectRegions(t, b, "bay", "sea")
}

// R3: a board that no function made.
func TestNoBoard(t *testing.T) {
	for k, b := range []*warn.Board{nil, {}, new(warn.Board)} {
		for _, x := range []warn.Bulletin{second(), {}, badBulletins()[0].b} {
			if e := b.Take(x); e != api.ErrNil {
				t.Error(k, e)
			}
		}
		for _, region := range []string{"bay", "", "Bay"} {
			if n, l, e := b.Stage(region); e != api.ErrNil || n != 0 || len(l) != 0 {
				t.Error(k, n, l, e)
			}
		}
		if b.Regions() != nil {
			t.Error(k, b.Regions())
		}
	}
}

// R4: a board keeps none of the memory that it got or gave away.
func TestBoardMemory(t *testing.T) {
	b, c := warn.NewBoard(), warn.NewBoard()
	l := []warn.Item{says("bay", warn.Warning), says("sea", warn.Notice), says("lake", warn.Alert)}
	want := slices.Clone(l)
	for _, b := range []*warn.Board{b, c} {
		take(t, b, from("a", "e", 1, l[:2]...), from("b", "e", 1, l[:2]...))
	}
	if !slices.Equal(l, want) {
		t.Error(l)
	}
	clear(l)
	for range 2 {
		for _, b := range []*warn.Board{b, c} {
			expectStage(t, b, "bay", warn.Warning, "a", "b")
			expectRegions(t, b, "bay", "sea")
			_, centres, _ := b.Stage("bay")
			clear(centres)
			clear(b.Regions())
		}
	}
	// What one board takes, another one does not have.
	take(t, b, from("a", "e", 2))
	expectStage(t, b, "bay", warn.Warning, "b")
	expectStage(t, c, "bay", warn.Warning, "a", "b")
}

// board is what the chapter says of boards: of each pair the bulletin with the greatest number.
type board struct {
	all []warn.Bulletin
}

func (m *board) kept() []warn.Bulletin {
	var l []warn.Bulletin
	for _, x := range m.all {
		isGreatest := !slices.ContainsFunc(m.all, func(y warn.Bulletin) bool {
			return y.Centre == x.Centre && y.Event == x.Event && y.Number > x.Number
		})
		if isGreatest {
			l = append(l, x)
		}
	}
	return l
}

// stage is the greatest stage of a region, or -1, and the centres with it.
func (m *board) stage(region string) (int, []string) {
	stage, centres := -1, []string(nil)
	for _, x := range m.kept() {
		for _, i := range x.Items {
			if i.Region == region {
				stage = max(stage, i.Stage)
			}
		}
	}
	for _, x := range m.kept() {
		for _, i := range x.Items {
			if i.Region == region && i.Stage == stage {
				centres = append(centres, x.Centre)
			}
		}
	}
	slices.Sort(centres)
	return stage, slices.Compact(centres)
}

func (m *board) regions() []string {
	var l []string
	for _, x := range m.kept() {
		for _, i := range x.Items {
			l = append(l, i.Region)
		}
	}
	slices.Sort(l)
	return slices.Compact(l)
}

// checkBoard checks that a board says what the chapter says of the bulletins that it got.
func checkBoard(t *testing.T, k any, b *warn.Board, m *board) {
	t.Helper()
	regions := m.regions()
	if l := b.Regions(); !slices.Equal(l, regions) {
		t.Error(k, l, regions)
	}
	for _, region := range append(regions, "other") {
		want := api.OK
		stage, centres := m.stage(region)
		if stage < 0 {
			stage, want = 0, api.ErrNone
		}
		if n, l, e := b.Stage(region); e != want || n != stage || !slices.Equal(l, centres) {
			t.Error(k, region, n, l, e, stage, centres, want)
		}
	}
}

// P7.4, P7.9, G8: boards by definition; and what is kept does not depend on the order of bulletins, nor on how often they come.
func TestBoardsByDefinition(t *testing.T) {
	r := dice(4)
	for k := range 2000 {
		var all []warn.Bulletin
		pick := func(letters string) string { return string(letters[r.IntN(len(letters))]) }
		for range r.IntN(12) {
			x := from(pick("abc"), pick("ef"), 1+r.IntN(4))
			for _, region := range []string{"r", "s", "t"} {
				if r.IntN(2) == 0 {
					x.Items = append(x.Items, says(region, r.IntN(4)))
				}
			}
			isThere := slices.ContainsFunc(all, func(y warn.Bulletin) bool {
				return y.Centre == x.Centre && y.Event == x.Event && y.Number == x.Number
			})
			if !isThere {
				all = append(all, x)
			}
		}
		b := warn.NewBoard()
		var got board
		for _, x := range all {
			isStale := slices.ContainsFunc(got.all, func(y warn.Bulletin) bool {
				return y.Centre == x.Centre && y.Event == x.Event && y.Number >= x.Number
			})
			want := map[bool]api.Errno{false: api.OK, true: api.ErrStale}[isStale]
			if e := b.Take(x); e != want {
				t.Error(k, x, e, want)
			}
			got.all = append(got.all, x)
			checkBoard(t, k, b, &got)
		}
		for range 3 {
			again := warn.NewBoard()
			for range 1 + r.IntN(2) {
				for _, i := range r.Perm(len(all)) {
					again.Take(all[i])
				}
			}
			checkBoard(t, k, again, &board{all})
		}
	}
}

// P7.9: what a centre says does not lower the stage that another one says.
func TestOthersDoNotLower(t *testing.T) {
	r := dice(5)
	lowered := 0
	for range 2000 {
		b := warn.NewBoard()
		said := map[string]int{}
		for number := 1; number < 8; number++ {
			centre := []string{"a", "b", "c"}[r.IntN(3)]
			stage := r.IntN(4)
			before, _, _ := b.Stage("bay")
			take(t, b, from(centre, "e", number, says("bay", stage)))
			said[centre] = stage
			after, l, _ := b.Stage("bay")
			for other, stage := range said {
				if after < stage || (after == stage) != slices.Contains(l, other) {
					t.Error(after, l, said)
				}
			}
			if after < before {
				lowered++
			}
		}
	}
	if lowered < 100 {
		t.Error("few cases:", lowered)
	}
}

// P7.9: boards that got the bulletins of the same centres, as these issued them, in whatever order, say the same.
func TestBoardsOfCentres(t *testing.T) {
	r := dice(6)
	for k := range 200 {
		var all []warn.Bulletin
		for _, name := range []string{"north", "west"} {
			c, _ := warn.New(name, "e1", []warn.Region{bay(), region("sea")}, r.IntN(100))
			for now := range 1 + r.IntN(5) {
				all = append(all, issue(t, c, now*50, randomState(r, 400), randomState(r, 400)))
			}
		}
		for range 5 {
			b := warn.NewBoard()
			for _, i := range r.Perm(len(all)) {
				s, _ := warn.Write(all[i])
				x, e := warn.Read(s)
				if e != api.OK {
					t.Fatal(s, e)
				}
				b.Take(x)
			}
			checkBoard(t, k, b, &board{all})
		}
	}
}
