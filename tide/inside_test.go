package tide

import (
	"math"
	"slices"
	"testing"

	"tidewall/api"
)

// One can stop ranging over pieces at any of them.
func TestPiecesStop(t *testing.T) {
	want := []api.Span{{Lo: 5, Hi: 9}, {Lo: 9, Hi: 13}, {Lo: 13, Hi: 15}}
	for n := 1; n <= len(want); n++ {
		var got []api.Span
		for piece := range pieces(api.Span{Lo: 5, Hi: 15}, 4) {
			got = append(got, piece)
			if len(got) == n {
				break
			}
		}
		if !slices.Equal(got, want[:n]) {
			t.Error(n, got)
		}
	}
}

// The whole part of the series is right, since no cosine of which it is asked is nearer to an integer than by 2^-11.
func TestSeries(t *testing.T) {
	for angle := 1; angle < Turn/4; angle++ {
		if angle == Turn/6 {
			continue
		}
		cosine := Unit * math.Cos(float64(angle)*math.Pi/(Turn/2))
		if off := math.Abs(cosine - math.Round(cosine)); off < 1.0/2048 {
			t.Error(angle, off)
		}
		if whole := wholeCosine(angle); whole != int(cosine) {
			t.Error(angle, whole, cosine)
		}
	}
}
