package gilboa_test

import (
	"math"
	"testing"
)

// P21.2 to P21.4: widths and lengths of rows that may not be.

func wrongWidths() []int {
	return []int{0, 65, 66, 127, 128, 192, 256, 1<<16 + 1, 1<<32 + 8, 1 << 61, 1 << 62, math.MaxInt64, -1, -2, -8, -63, -64, -1 << 32, -1 << 62, math.MinInt64, math.MinInt64 + 8}
}

// wrongCounts tells lengths of rows. Four or two times some of them are cut to 0 or to a small number, where the product has no more than 64 bits.
func wrongCounts() []int {
	return []int{0, 7, 8, 36, 37, 1 << 16, 1 << 32, 1 << 61, 1 << 62, 1<<62 + 1, math.MaxInt64, -1, -2, -6, -1 << 32, -1 << 62, math.MinInt64, math.MinInt64 + 1}
}

// tooGreat tells numbers that have more than so many bits.
func tooGreat(width int) []uint64 { return []uint64{1 << width, greatest(width) + 2, 1 << 63, top} }

// eachTooGreat tries whole rows one number of which has more bits, in each place.
func eachTooGreat(try func(width, n int, wrong []uint64)) {
	for width := 1; width <= 63; width++ {
		for _, n := range []int{1, 2, 6} {
			for at := range 2 * n {
				for _, wrong := range tooGreat(width) {
					numbers := make([]uint64, 2*n)
					numbers[at] = wrong
					try(width, n, numbers)
				}
			}
		}
	}
}

// noneTakes holds that of so wide numbers, so many a row, there is nothing.
func noneTakes(t *testing.T, width, n int) {
	t.Helper()
	for _, have := range []int{0, 1, 2, 4, 6, 7, 36, 64, 384, 448} {
		numbers := make([]uint64, have)
		notSpread(t, width, n, numbers)
		notFolded(t, width, n, numbers)
		for _, as := range []int{0, 1, 2, 4, have} {
			notMultiplied(t, width, n, make([]uint64, as), numbers)
		}
	}
}

func TestWrongWidths(t *testing.T) {
	for _, width := range wrongWidths() {
		for n := 1; n <= 6; n++ {
			noneTakes(t, width, n)
		}
	}
}

func TestWrongCounts(t *testing.T) {
	for _, n := range wrongCounts() {
		for _, width := range []int{1, 2, 8, 63, 64} {
			noneTakes(t, width, n)
		}
	}
}

func TestWrongWidthsAndCounts(t *testing.T) {
	for _, width := range wrongWidths() {
		for _, n := range wrongCounts() {
			noneTakes(t, width, n)
		}
	}
}
