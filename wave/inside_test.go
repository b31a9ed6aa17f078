package wave

import (
	"cmp"
	"iter"
	"math/big"
	"slices"
	"testing"

	"tidewall/api"
)

// One can stop ranging over neighbors at any of them, and they are in the order of chapter 1.
func TestNearStops(t *testing.T) {
	g := api.Grid{Wide: 3, High: 3, Size: 1, Ground: make([]api.Span, 9)}
	w := newWaters(g, api.Span{}, Model{Keep: api.Span{Lo: 1, Hi: 1}, Land: api.Span{Lo: 10, Hi: 10}})
	want := []int{5, 7, 3, 1}
	for n := 1; n <= len(want); n++ {
		var got []int
		for cell := range w.most.near(4) {
			got = append(got, cell)
			if len(got) == n {
				break
			}
		}
		if !slices.Equal(got, want[:n]) {
			t.Error(n, got)
		}
	}
}

// R5: roots, also of squares and beside them, up to greater numbers than squares of crossing times, and depths times 2^40.
func TestRoots(t *testing.T) {
	isRoot := func(n int) {
		t.Helper()
		root := new(big.Int).Sqrt(big.NewInt(int64(n)))
		low, high := int(root.Int64()), int(root.Int64())
		if low*low < n {
			high++
		}
		if rootDown(n) != low || rootUp(n) != high {
			t.Error(n, rootDown(n), rootUp(n), low, high)
		}
	}
	for n := range 3000 {
		isRoot(n)
	}
	for root := 1; root < 1<<31; root += root/50 + 1 {
		isRoot(root*root - 1)
		isRoot(root * root)
		isRoot(root*root + 1)
	}
	for places := range 62 {
		isRoot(1<<places - 1)
		isRoot(1 << places)
	}
	isRoot((api.MaxGround + api.MaxLevel) << 40)
	isRoot(1_000_000_000_000_000_000)
}

// R5: quotients of numbers from 0 on.
func TestQuotients(t *testing.T) {
	for n := range 60 {
		for divisor := 1; divisor < 13; divisor++ {
			low, high := 0, 0
			for (low+1)*divisor <= n {
				low++
			}
			for high*divisor < n {
				high++
			}
			if down(n, divisor) != low || up(n, divisor) != high {
				t.Error(n, divisor, down(n, divisor), up(n, divisor))
			}
		}
	}
	most := 1_000_000_000_000_000_000
	if down(most, 981) != 1019367991845056 || up(most, 981) != 1019367991845057 || up(most, gravity*(api.MaxGround+api.MaxLevel)) != 835547535 {
		t.Error(down(most, 981), up(most, 981), up(most, gravity*(api.MaxGround+api.MaxLevel)))
	}
}

// The fourth roots of the chapter, r and R: exact where they are integers, and otherwise beside each other.
func TestFourthRoots(t *testing.T) {
	for root := 1; root <= 33; root++ {
		depth := root * root * root * root
		if below().fourthRoot(depth) != 1024*root || above().fourthRoot(depth) != 1024*root {
			t.Error(root)
		}
	}
	// In these depths, it matters to the fourth root how the root is rounded of which it is the root.
	depths := []int{4815, 62117, 121422, 126139, 127346, 232018, 990311, 1064150}
	for depth := 1; depth <= api.MaxGround+api.MaxLevel; depth += 1 + depth/300 {
		depths = append(depths, depth)
	}
	power := func(root int) *big.Int {
		return new(big.Int).Exp(big.NewInt(int64(root)), big.NewInt(4), nil)
	}
	for _, depth := range depths {
		low, high, n := below().fourthRoot(depth), above().fourthRoot(depth), new(big.Int).Lsh(big.NewInt(int64(depth)), 40)
		if power(low).Cmp(n) > 0 || power(low+1).Cmp(n) <= 0 || power(high).Cmp(n) < 0 || power(high-1).Cmp(n) >= 0 {
			t.Error(depth, low, high)
		}
	}
}

// Where ways cross, and come from several cells, the best one counts, with any order; where none leads there is none.
func TestBestOfWords(t *testing.T) {
	l := [][]int{{1, 2}, {3}, {3}, {4}, {3}, {0}}
	near := func(cell int) iter.Seq[int] { return slices.Values(l[cell]) }
	step := func(_, to int, word string) string {
		if to == 4 && len(word) > 3 {
			return "?"
		}
		return word + string(rune('a'+to))
	}
	isShorter := func(a, b string) bool { return b == "?" && a != "?" || a != "?" && len(a) < len(b) }
	for k, x := range []struct{ first, want []string }{
		{[]string{"x", "?", "?", "?", "?", "?"}, []string{"x", "xb", "xc", "xbd", "xbde", "?"}},
		{[]string{"xy", "?", "z", "?", "?", "?"}, []string{"xy", "xyb", "z", "zd", "zde", "?"}},
		{[]string{"xyz", "?", "?", "?", "?", "?"}, []string{"xyz", "xyzb", "xyzc", "xyzbd", "?", "?"}},
		{[]string{"?", "?", "?", "?", "?", "w"}, []string{"wa", "wab", "wac", "wabd", "?", "w"}},
		{[]string{"?", "?", "?", "?", "?", "?"}, []string{"?", "?", "?", "?", "?", "?"}},
	} {
		first := slices.Clone(x.first)
		if got := best(first, "?", isShorter, near, step); !slices.Equal(got, x.want) || !slices.Equal(first, x.first) {
			t.Error(k, got, first)
		}
	}
}

// The best ways are gone on first: so no cell is gone on from twice, and the search is fast on all grounds.
func TestBestGoesOnOnce(t *testing.T) {
	const side = 24
	delay := func(cell int) int { return cell * cell % 97 }
	w := newWaters(api.Grid{Wide: side, High: side, Size: 1, Ground: make([]api.Span, side*side)}, api.Span{}, Model{})
	visits := make([]int, side*side)
	near := func(cell int) iter.Seq[int] {
		visits[cell]++
		return w.most.near(cell)
	}
	first := slices.Repeat([]int{api.Never}, side*side)
	first[0], first[500] = 0, 40
	later := func(_, to, time int) int { return time + delay(to) }
	times := best(first, api.Never, cmp.Less[int], near, later)
	for cell, n := range visits {
		if n != 1 || times[cell] >= api.Never {
			t.Error(cell, n, times[cell])
		}
	}
}
