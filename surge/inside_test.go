package surge

import (
	"math"
	"slices"
	"testing"

	"tidewall/api"
)

// One can stop ranging over a fetch at any of its cells.
func TestFetchStops(t *testing.T) {
	ground := slices.Repeat([]api.Span{{Lo: -5, Hi: -5}}, 5)
	w := waters{api.Grid{Wide: 5, High: 1, Size: 1, Ground: ground}, exactly(0)}
	want := []int{1, 2, 3, 4}
	for n := 1; n <= len(want); n++ {
		var got []int
		for cell := range w.fetch(0, 0, isSeaForSure) {
			got = append(got, cell)
			if len(got) == n {
				break
			}
		}
		if !slices.Equal(got, want[:n]) {
			t.Error(n, got)
		}
	}
}

// R5: roots, also of squares and beside them, up to greater numbers than distances have.
func TestRoots(t *testing.T) {
	isRoot := func(n int) {
		t.Helper()
		low, high := rootDown(n), rootUp(n)
		if low*low > n || (low+1)*(low+1) <= n || high*high < n || high > 0 && (high-1)*(high-1) >= n {
			t.Error(n, low, high)
		}
	}
	for n := range 3000 {
		isRoot(n)
	}
	for root := 1; root < 2000000; root += 997 {
		isRoot(root*root - 1)
		isRoot(root * root)
		isRoot(root*root + 1)
	}
	isRoot(1 << 60)
}

// R5: quotients, at both ends of all integers too.
func TestQuotients(t *testing.T) {
	for n := -50; n <= 50; n++ {
		for divisor := 1; divisor < 12; divisor++ {
			exact := float64(n) / float64(divisor)
			if down(n, divisor) != int(math.Floor(exact)) || up(n, divisor) != int(math.Ceil(exact)) {
				t.Error(n, divisor, down(n, divisor), up(n, divisor))
			}
		}
	}
	if down(math.MinInt, 1) != math.MinInt || up(math.MinInt, 3) != math.MinInt/3 || up(math.MaxInt, 2) != 1<<62 || down(math.MinInt, 3) != math.MinInt/3-1 {
		t.Error("ends")
	}
}
