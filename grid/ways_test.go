package grid

import (
	"cmp"
	"math/rand/v2"
	"slices"
	"testing"

	"tidewall/api"
)

// The heap gives back what was put into it in the order of its function, also when both take turns.
func TestHeapOrder(t *testing.T) {
	r := rand.New(rand.NewPCG(1, 1))
	for k, before := range []func(a, b int) bool{cmp.Less[int], func(a, b int) bool { return a > b }} {
		h := heap[int]{before: before}
		var kept []int
		for range 2000 {
			if len(kept) > 0 && r.IntN(5) < 2 {
				first := slices.MinFunc(kept, func(a, b int) int {
					if before(a, b) {
						return -1
					}
					return 1
				})
				kept = slices.Delete(kept, slices.Index(kept, first), slices.Index(kept, first)+1)
				if got := h.pop(); got != first {
					t.Fatal(k, got, first)
				}
				continue
			}
			n := r.IntN(100)
			h.push(n)
			kept = append(kept, n)
		}
		if len(h.items) != len(kept) {
			t.Error(k, len(h.items), len(kept))
		}
	}
}

// One can stop ranging over neighbors at any of them.
func TestNeighborsStop(t *testing.T) {
	g := api.Grid{Wide: 3, High: 3, Size: 1, Ground: make([]api.Span, 9)}
	want := []int{5, 7, 3, 1}
	for n := 1; n <= len(want); n++ {
		var got []int
		for cell := range neighbors(g, 4) {
			got = append(got, cell)
			if len(got) == n {
				break
			}
		}
		if !slices.Equal(got, want[:n]) {
			t.Error(n, got)
		}
	}
}
