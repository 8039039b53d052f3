package impl

import (
	"math"
	"testing"
)

// math.Round takes of two the one further from 0, and is exact for numbers this small.
func TestNearestOfEverySmallNumber(t *testing.T) {
	for x := math.MinInt8; x <= math.MaxInt8; x++ {
		for y := math.MinInt8; y <= math.MaxInt8; y++ {
			if y == 0 || x == math.MinInt8 && y == -1 {
				continue
			}
			want := int(math.Round(float64(x) / float64(y)))
			if got := nearest(int8(x), int8(y)); int(got) != want {
				t.Errorf("nearest(%d, %d): %d, want %d", x, y, got, want)
			}
			if got := nearest(x, y); got != want {
				t.Errorf("nearest(%d, %d) of ints: %d, want %d", x, y, got, want)
			}
		}
	}
	for x := range math.MaxUint8 + 1 {
		for y := 1; y <= math.MaxUint8; y++ {
			want := int(math.Round(float64(x) / float64(y)))
			if got := nearest(uint8(x), uint8(y)); int(got) != want {
				t.Errorf("nearest(%d, %d): %d, want %d", x, y, got, want)
			}
		}
	}
}
