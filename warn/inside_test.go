package warn

import (
	"slices"
	"testing"

	"tidewall/api"
)

// One can stop ranging over the items of a centre, or of a board, at any of them.
func TestItemsStop(t *testing.T) {
	l := []Region{{Name: "a", Heights: [3]int{1, 2, 3}}, {Name: "b", Heights: [3]int{1, 2, 3}}, {Name: "c", Heights: [3]int{1, 2, 3}}}
	c, _ := New("west", "e1", l, 0)
	states := []State{{Rise: api.Span{Hi: 1}}, {Rise: api.Span{Hi: 2}}, {Rise: api.Span{Hi: 3}}}
	b := NewBoard()
	for _, name := range []string{"x", "y"} {
		other, _ := New(name, "e1", l[:2], 0)
		x, _ := other.Issue(0, states[:2])
		b.Take(x)
	}
	names := make([]string, 4)
	for n := 1; n <= 3; n++ {
		var stages []int
		for x := range c.items(0, states) {
			stages = append(stages, x.Stage)
			if len(stages) == n {
				break
			}
		}
		if len(stages) != n {
			t.Error(n, stages)
		}
	}
	for n := 1; n <= len(names); n++ {
		got := 0
		for centre, x := range b.items() {
			names[got] = centre + x.Region
			got++
			if got == n {
				break
			}
		}
		if got != n {
			t.Error(n, got)
		}
	}
	slices.Sort(names)
	if !slices.Equal(names, []string{"xa", "xb", "ya", "yb"}) {
		t.Error(names)
	}
}

// A line that is wrong ends with a panic, which parse recovers.
func TestWrongLines(t *testing.T) {
	const head = "BULLETIN a b 1 0\n"
	for _, body := range []string{"", "\n", "x\n", "BULLETIN\n", "BULLETIN a b x 0\n", head + "\n", head + "REGION r NONE FIRST x 0 0 0 LATE\n", head + "REGION r NEVER FIRST 0 0 0 0 LATE\n", head + "REGION r NONE FIRST 0 0 0 0\n"} {
		if b, ok := parse(body); ok || b.Centre != "" || len(b.Items) != 0 {
			t.Errorf("%q: %v", body, b)
		}
	}
	if b, ok := parse(head + "REGION r NONE FIRST 0 0 0 0 LATE\n"); !ok || b.Centre != "a" || len(b.Items) != 1 {
		t.Error(b, ok)
	}
}
