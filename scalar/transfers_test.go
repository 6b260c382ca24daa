package scalar_test

import (
	"math/rand"
	"testing"

	"trefoil/api"
)

// P22.2

// isChosen holds choices against the chapter's words, bit by bit.
func isChosen(t *testing.T, width int, l []api.Share) {
	t.Helper()
	v := chosen(t, class(width), l)
	for i, s := range l {
		for bit := range width {
			if v.Get(i*width+bit) != (s.A[0]>>bit&1 == 1) {
				t.Fatalf("the bit %d of the share %d, %x of %d bits, is %t", bit, i, s, width, v.Get(i*width+bit))
			}
		}
	}
}

// isSpread holds what is spread against the chapter's words, by numbers without a bound.
func isSpread(t *testing.T, width int, l []api.Share) {
	t.Helper()
	for at, x := range spread(t, class(width), l) {
		i, bit := at/width, at%width
		b := bigger(l[i].B[0])
		if want := cut(width, b.Lsh(b, uint(bit))); x != want {
			t.Fatalf("the share %d, %x of %d bits, is spread at the bit %d to %x, not to %x", i, l[i], width, bit, x, want)
		}
	}
}

func edges(width int) []uint64 {
	return []uint64{0, 1, greatest(width), greatest(width) - 1, 1 << (width - 1)}
}

func TestTransfersOfEdges(t *testing.T) {
	for width := 1; width <= 64; width++ {
		for _, a := range edges(width) {
			for _, b := range edges(width) {
				for _, l := range [][]api.Share{pairs([]uint64{a, b}), pairs([]uint64{0, greatest(width), a, b, b, a})} {
					isChosen(t, width, l)
					isSpread(t, width, l)
				}
			}
		}
	}
}

func TestTransfersOfDrawnShares(t *testing.T) {
	r := rand.New(rand.NewSource(1))
	for width := 1; width <= 64; width++ {
		for n := 1; n <= api.MaxBatch; n++ {
			l := anyShares(r, width, n)
			isChosen(t, width, l)
			isSpread(t, width, l)
		}
	}
}

// A alone is chosen by, and B alone is spread.
func TestEachPartHasItsOwn(t *testing.T) {
	l := pairs([]uint64{5, 0, 0, 3})
	if got := text(chosen(t, class(4), l)); got != "10100000" {
		t.Errorf("Choices tells %s", got)
	}
	for at, x := range spread(t, class(4), l) {
		if want := []uint64{0, 0, 0, 0, 3, 6, 12, 8}[at]; x != want {
			t.Errorf("Spread tells %d in the place %d, not %d", x, at, want)
		}
	}
}
