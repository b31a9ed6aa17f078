package quake

import (
	"slices"
	"testing"

	"tidewall/api"
)

// One can stop ranging over pieces at any of them.
func TestPiecesStop(t *testing.T) {
	allowed := []api.Span{{Lo: 0, Hi: 6}, {Lo: 4, Hi: 8}, {Lo: 7, Hi: 6}, {Lo: 20, Hi: api.Never}, {Lo: 9, Hi: 9}}
	want := []api.Span{{Lo: 3, Hi: 3}, {Lo: 4, Hi: 6}, {Lo: 7, Hi: 8}, {Lo: 9, Hi: 9}, {Lo: 10, Hi: 12}}
	wrong := []int{4, 3, 4, 4, 5}
	for n := 1; n <= len(want); n++ {
		var got []api.Span
		var numbers []int
		for piece, number := range pieces(api.Span{Lo: 3, Hi: 12}, allowed) {
			got, numbers = append(got, piece), append(numbers, number)
			if len(got) == n {
				break
			}
		}
		if !slices.Equal(got, want[:n]) || !slices.Equal(numbers, wrong[:n]) {
			t.Error(n, got, numbers)
		}
	}
}

// R5: roots, also of squares and beside them, up to the greatest number that a distance is the root of.
func TestRoots(t *testing.T) {
	isRoot := func(n int) {
		t.Helper()
		low, high := rootDown(n), rootUp(n)
		if low*low > n || (low+1)*(low+1) <= n || high*high < n || high > 0 && (high-1)*(high-1) >= n {
			t.Error(n, low, high)
		}
	}
	for n := range 3000 {
		isRoot(n)
	}
	for root := 1; root < beyond-1; root += 997 {
		isRoot(root*root - 1)
		isRoot(root * root)
		isRoot(root*root + 1)
	}
	side := api.MaxSide * api.MaxSize
	isRoot(2*side*side + maxDepth*maxDepth)
}
