package gilboa_test

import (
	"math/big"
	"math/rand"
	"slices"
	"testing"

	"trefoil/api"
	"trefoil/gilboa"
)

// P21.3

// isFolded holds what Fold tells against the chapter's words: sums by numbers without a bound.
func isFolded(t *testing.T, width, n int, shares []uint64) {
	t.Helper()
	got := folded(t, width, n, shares)
	for at, x := range got {
		row, place := at/n, at%n
		sum := new(big.Int)
		for bit := range width {
			sum.Add(sum, new(big.Int).SetUint64(shares[(row*width+bit)*n+place]))
		}
		if want := cut(width, sum); x != want {
			t.Fatalf("the place %d of the row %d, of %d bits, %d each, is folded to %x, not to %x", place, row, width, n, x, want)
		}
	}
}

func TestFoldOfEdges(t *testing.T) {
	for width := 1; width <= 64; width++ {
		for n := 1; n <= 6; n++ {
			for _, x := range []uint64{0, 1, greatest(width), 1 << (width - 1)} {
				isFolded(t, width, n, slices.Repeat([]uint64{x}, n*width))
				isFolded(t, width, n, slices.Repeat([]uint64{x}, 3*n*width))
			}
		}
	}
}

// Each share goes to its own row and place, and nowhere else.
func TestFoldOfOneShare(t *testing.T) {
	for _, width := range []int{1, 2, 5, 63, 64} {
		for n := 1; n <= 6; n++ {
			for at := range 3 * n * width {
				shares := make([]uint64, 3*n*width)
				shares[at] = greatest(width)
				want := make([]uint64, 3*n)
				want[at/(n*width)*n+at%n] = greatest(width)
				if got := folded(t, width, n, shares); !slices.Equal(got, want) {
					t.Fatalf("the share %d of %d bits, %d each, is folded to %x", at, width, n, got)
				}
			}
		}
	}
}

func TestFoldOfDrawnShares(t *testing.T) {
	r := rand.New(rand.NewSource(1))
	for width := 1; width <= 64; width++ {
		for n := 1; n <= 6; n++ {
			for _, rows := range []int{1, 2, 5} {
				isFolded(t, width, n, anyNumbers(r, width, n*width*rows))
			}
		}
	}
}

func TestFoldOfManyShares(t *testing.T) {
	r := rand.New(rand.NewSource(2))
	isFolded(t, 3, 2, anyNumbers(r, 3, 300000)) // no limit is named
	isFolded(t, 64, 6, anyNumbers(r, 64, 64*6*1000))
}

func notFolded(t *testing.T, width, n int, shares []uint64) {
	t.Helper()
	if l, code := gilboa.Fold(width, n, shares); code != api.ErrShape || len(l) != 0 {
		t.Errorf("of %d shares of %d bits, %d each, Fold tells %d, with %d", len(shares), width, n, len(l), code)
	}
}

func TestFoldOfTooFewOrTooManyRows(t *testing.T) {
	for _, width := range []int{1, 2, 3, 8, 63, 64} {
		for n := 1; n <= 6; n++ {
			for have := range 2*width*n + 2 {
				if have%(width*n) != 0 { // whole rows among them, and as many as some number's bits, but not both
					notFolded(t, width, n, make([]uint64, have))
				}
			}
		}
	}
}

func TestFoldOfTooGreatNumbers(t *testing.T) {
	eachTooGreat(func(width, n int, wrong []uint64) { notFolded(t, width, n, slices.Repeat(wrong, width)) })
	for width := 1; width <= 63; width++ { // in whichever place
		for at := range 2 * width {
			shares := make([]uint64, 2*width)
			shares[at] = 1 << width
			notFolded(t, width, 1, shares)
			notFolded(t, width, 2, shares)
		}
	}
}
