package cot_test

import (
	"math"
	"math/rand"
	"testing"

	"trefoil/api"
	"trefoil/bits"
	"trefoil/cot"
	"trefoil/rot"
)

// P19.1 and P19.2: what neither Send nor Receive takes.

func wrongWidths() []int {
	return []int{0, 65, 66, 127, 128, 192, 256, 1<<16 + 1, 1<<32 + 8, math.MaxInt64, -1, -2, -8, -63, -64, -1 << 32, math.MinInt64, math.MinInt64 + 8}
}

// wrongCounts tells counts for each transfer. Four or two times some of them are cut to 0 or to a small number, where the product has no more than 64 bits.
func wrongCounts() []int {
	return []int{0, 7, 8, 36, 37, 1 << 16, 1 << 32, 1 << 61, 1 << 62, 1<<62 + 1, math.MaxInt64, -1, -2, -6, -1 << 32, -1 << 62, math.MinInt64, math.MinInt64 + 1}
}

func notSent(t *testing.T, width, n int, pairs []rot.Pair, xs []uint64) {
	t.Helper()
	if fix, own, code := cot.Send(width, n, pairs, xs); code != api.ErrShape || len(fix) != 0 || len(own) != 0 {
		t.Errorf("of %d pairs and %d numbers of %d bits, %d each, Send makes %d and %d, with %d", len(pairs), len(xs), width, n, len(fix), len(own), code)
	}
}

func notReceived(t *testing.T, width, n int, seeds []api.Seed, choices bits.Vec, fix []uint64) {
	t.Helper()
	if own, code := cot.Receive(width, n, seeds, choices, fix); code != api.ErrShape || len(own) != 0 {
		t.Errorf("of %d seeds, %d choices and %d corrections of %d bits, %d each, Receive makes %d, with %d", len(seeds), choices.Len(), len(fix), width, n, len(own), code)
	}
}

// notMade holds that neither Send nor Receive takes these.
func notMade(t *testing.T, width, n int, pairs []rot.Pair, numbers []uint64) {
	t.Helper()
	notSent(t, width, n, pairs, numbers)
	for _, choices := range []bits.Vec{blank(len(pairs)), blank(len(pairs)).Not()} {
		notReceived(t, width, n, picked(pairs, choices), choices, numbers)
	}
}

func TestWrongWidthsAndCounts(t *testing.T) {
	pairs := anyPairs(rand.New(rand.NewSource(1)), 4)
	for transfers := range 5 {
		some := pairs[:transfers]
		for _, width := range wrongWidths() {
			for n := 1; n <= 6; n++ {
				notMade(t, width, n, some, make([]uint64, n*transfers))
			}
		}
		for _, n := range wrongCounts() {
			for _, width := range []int{1, 8, 63, 64, 0, 65, -1} {
				notMade(t, width, n, some, nil)
				notMade(t, width, n, some, make([]uint64, transfers))
				notMade(t, width, n, some, make([]uint64, 4))
				if n >= 0 && n <= 37 {
					notMade(t, width, n, some, make([]uint64, n*transfers))
				}
			}
		}
	}
}

func TestWrongNumbersOfNumbers(t *testing.T) {
	pairs := anyPairs(rand.New(rand.NewSource(2)), 5)
	for transfers := range 6 {
		for n := 1; n <= 6; n++ {
			for have := range 40 {
				if have != n*transfers {
					notMade(t, 8, n, pairs[:transfers], make([]uint64, have))
				}
			}
		}
	}
}

// One number that has more bits is enough, in whichever place.
func TestTooGreatNumbers(t *testing.T) {
	pairs := anyPairs(rand.New(rand.NewSource(3)), 3)
	for width := 1; width <= 63; width++ {
		for _, n := range []int{1, 2, 6} {
			for at := range 3 * n {
				for _, wrong := range []uint64{1 << width, greatest(width) + 2, 1 << 63, top} {
					numbers := make([]uint64, 3*n)
					numbers[at] = wrong
					notMade(t, width, n, pairs, numbers)
				}
			}
		}
	}
}
