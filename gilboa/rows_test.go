package gilboa_test

import (
	"math/rand"
	"slices"
	"testing"

	"trefoil/api"
	"trefoil/gilboa"
)

// P21.4

// areProducts holds what Rows tells against products by numbers without a bound.
func areProducts(t *testing.T, width, n int, as, rows []uint64) {
	t.Helper()
	for at, x := range multiplied(t, width, n, as, rows) {
		if want := product(width, as[at/n], rows[at]); x != want {
			t.Fatalf("%x times %x, the number %d of %d bits, %d each, is %x, not %x", as[at/n], rows[at], at, width, n, x, want)
		}
	}
}

func TestRowsOfEdges(t *testing.T) {
	for width := 1; width <= 64; width++ {
		edges := []uint64{0, 1, greatest(width), greatest(width) - 1, 1 << (width - 1)}
		for _, a := range edges {
			for n := 1; n <= 6; n++ {
				as := slices.Repeat([]uint64{a}, len(edges))
				areProducts(t, width, n, as, slices.Repeat(edges, n))
			}
		}
	}
}

func TestRowsOfDrawnNumbers(t *testing.T) {
	r := rand.New(rand.NewSource(1))
	for width := 1; width <= 64; width++ {
		for n := 1; n <= 6; n++ {
			for _, rows := range []int{1, 2, 7} {
				areProducts(t, width, n, anyNumbers(r, width, rows), anyNumbers(r, width, n*rows))
			}
		}
	}
}

func TestRowsOfMany(t *testing.T) {
	r := rand.New(rand.NewSource(2))
	areProducts(t, 40, 3, anyNumbers(r, 40, 50000), anyNumbers(r, 40, 150000)) // no limit is named
}

// Rows' chapter names no error of numbers that have more bits: of these and of their products the lowest bits stay.
func TestRowsOfNumbersWithMoreBits(t *testing.T) {
	r := rand.New(rand.NewSource(3))
	if got := multiplied(t, 4, 2, []uint64{0x15, 3}, []uint64{3, 0x103, 0xfffffff1, 16}); !slices.Equal(got, []uint64{15, 15, 3, 0}) {
		t.Errorf("the products are %x", got)
	}
	for width := 1; width <= 64; width++ {
		for n := 1; n <= 6; n++ {
			areProducts(t, width, n, anyNumbers(r, 64, 5), anyNumbers(r, 64, 5*n))
		}
	}
}

func notMultiplied(t *testing.T, width, n int, as, rows []uint64) {
	t.Helper()
	if l, code := gilboa.Rows(width, n, as, rows); code != api.ErrShape || len(l) != 0 {
		t.Errorf("of %d numbers and %d in rows, of %d bits, %d each, Rows tells %d, with %d", len(as), len(rows), width, n, len(l), code)
	}
}

func TestRowsOfNotAsMany(t *testing.T) {
	for _, width := range []int{1, 8, 64} {
		for n := 1; n <= 6; n++ {
			for as := range 7 {
				for have := range 50 {
					if have != n*as {
						notMultiplied(t, width, n, make([]uint64, as), make([]uint64, have))
					}
				}
			}
		}
	}
}
