package gilboa_test

import (
	"math/rand"
	"slices"
	"testing"

	"trefoil/api"
	"trefoil/gilboa"
)

// P21.2

// isSpread holds what Spread tells against the chapter's words, number by number.
func isSpread(t *testing.T, width, n int, rows []uint64) {
	t.Helper()
	got := spread(t, width, n, rows)
	for at, x := range got {
		row, bit, place := at/(width*n), at/n%width, at%n
		if want := product(width, rows[row*n+place], 1<<bit); x != want {
			t.Fatalf("the place %d of the row %d, %x of %d bits, %d each, times two to the %d is %x, not %x", place, row, rows[row*n+place], width, n, bit, x, want)
		}
	}
}

func TestSpreadOfEdges(t *testing.T) {
	for width := 1; width <= 64; width++ {
		for _, x := range []uint64{0, 1, greatest(width), greatest(width) - 1, 1 << (width - 1)} {
			for n := 1; n <= 6; n++ {
				isSpread(t, width, n, slices.Repeat([]uint64{x}, n))
				isSpread(t, width, n, slices.Repeat([]uint64{x, 0, greatest(width)}, n))
			}
		}
	}
}

func TestSpreadOfDrawnRows(t *testing.T) {
	r := rand.New(rand.NewSource(1))
	for width := 1; width <= 64; width++ {
		for n := 1; n <= 6; n++ {
			for _, rows := range []int{1, 2, 5} {
				isSpread(t, width, n, anyNumbers(r, width, n*rows))
			}
		}
	}
}

func TestSpreadOfManyRows(t *testing.T) {
	r := rand.New(rand.NewSource(2))
	isSpread(t, 3, 2, anyNumbers(r, 3, 100000)) // no limit is named
	isSpread(t, 64, 6, anyNumbers(r, 64, 12000))
}

// Rows are spread each by itself.
func TestSpreadOfParts(t *testing.T) {
	r := rand.New(rand.NewSource(3))
	const width, n, rows = 21, 3, 8
	all := anyNumbers(r, width, n*rows)
	want := spread(t, width, n, all)
	for at := range rows + 1 {
		if got := slices.Concat(spread(t, width, n, all[:at*n]), spread(t, width, n, all[at*n:])); !slices.Equal(got, want) {
			t.Errorf("two parts, cut at %d, are spread to others", at)
		}
	}
}

func notSpread(t *testing.T, width, n int, rows []uint64) {
	t.Helper()
	if l, code := gilboa.Spread(width, n, rows); code != api.ErrShape || len(l) != 0 {
		t.Errorf("of %d numbers of %d bits, %d each, Spread tells %d, with %d", len(rows), width, n, len(l), code)
	}
}

func TestSpreadOfRowsThatAreNotWhole(t *testing.T) {
	for n := 2; n <= 6; n++ {
		for have := range 40 {
			if have%n != 0 {
				notSpread(t, 1, n, make([]uint64, have))
				notSpread(t, 8, n, make([]uint64, have))
				notSpread(t, 64, n, make([]uint64, have))
			}
		}
	}
}

func TestSpreadOfTooGreatNumbers(t *testing.T) {
	eachTooGreat(func(width, n int, wrong []uint64) { notSpread(t, width, n, wrong) })
}
