package gilboa_test

import (
	"math/rand"
	"testing"

	"trefoil/api"
	"trefoil/bits"
	"trefoil/gilboa"
)

// P21.1

// isChosen holds what Choices tells against the chapter's words, bit by bit.
func isChosen(t *testing.T, width int, as []uint64) {
	t.Helper()
	v := chosen(t, width, as)
	for i, a := range as {
		for bit := range width {
			if v.Get(i*width+bit) != (a>>bit&1 == 1) {
				t.Fatalf("the bit %d of the number %d, %x of %d bits, is %t", bit, i, a, width, v.Get(i*width+bit))
			}
		}
	}
}

func TestChoicesOfEdges(t *testing.T) {
	for width := 1; width <= 64; width++ {
		for _, x := range []uint64{0, 1, greatest(width), greatest(width) - 1, 1 << (width - 1)} {
			isChosen(t, width, []uint64{x})
			isChosen(t, width, []uint64{0, x, greatest(width), x})
		}
	}
}

func TestChoicesOfDrawnNumbers(t *testing.T) {
	r := rand.New(rand.NewSource(1))
	for width := 1; width <= 64; width++ {
		for _, n := range []int{1, 2, 7, 64, 100} {
			isChosen(t, width, anyNumbers(r, width, n))
		}
	}
}

// most tells how many numbers of so many bits bits.Of takes the bits of.
func most(width int) int { return 64 * api.MaxWords / width }

func TestChoicesOfAsManyAsMayBe(t *testing.T) {
	r := rand.New(rand.NewSource(2))
	for _, width := range []int{1, 2, 3, 7, 32, 63, 64} {
		as := anyNumbers(r, width, most(width)+2)
		isChosen(t, width, as[:most(width)])
		for _, more := range []int{most(width) + 1, most(width) + 2} {
			if v, code := gilboa.Choices(width, as[:more]); code != api.ErrLimit || v.Len() != 0 {
				t.Errorf("of %d numbers of %d bits Choices tells %d bits, with %d", more, width, v.Len(), code)
			}
		}
	}
}

// The error is bits.Of's own.
func TestChoicesOfTooMany(t *testing.T) {
	for _, width := range []int{1, 5, 64} {
		for _, more := range []int{1, 2, 1000} {
			n := most(width) + more
			_, want := bits.Of(make([]bool, n*width))
			if v, code := gilboa.Choices(width, make([]uint64, n)); code != want || v.Len() != 0 {
				t.Errorf("of %d numbers of %d bits Choices tells %d bits, with %d, not %d", n, width, v.Len(), code, want)
			}
		}
	}
}

func notChosen(t *testing.T, width int, as []uint64) {
	t.Helper()
	if v, code := gilboa.Choices(width, as); code != api.ErrShape || v.Len() != 0 || len(v.Raw()) != 0 {
		t.Errorf("of %d numbers of %d bits Choices tells %d bits, with %d", len(as), width, v.Len(), code)
	}
}

func TestChoicesOfWrongWidths(t *testing.T) {
	for _, width := range wrongWidths() {
		for n := range 5 {
			notChosen(t, width, make([]uint64, n))
		}
		notChosen(t, width, []uint64{1})
		notChosen(t, width, []uint64{0, top})
	}
}

// One number that has more bits is enough, in whichever place.
func TestChoicesOfTooGreatNumbers(t *testing.T) {
	for width := 1; width <= 63; width++ {
		for at := range 5 {
			for _, wrong := range tooGreat(width) {
				as := make([]uint64, 5)
				as[at] = wrong
				notChosen(t, width, as)
			}
		}
	}
}

// A shape that is wrong is told ahead of too many.
func TestChoicesTellShapesFirst(t *testing.T) {
	for _, width := range []int{0, -1, 65, 66} {
		notChosen(t, width, make([]uint64, 64*api.MaxWords+1))
	}
	for _, width := range []int{1, 32, 63} {
		as := make([]uint64, most(width)+1)
		for _, at := range []int{0, most(width)} {
			as[at] = 1 << width
			notChosen(t, width, as)
			as[at] = 0
		}
	}
}
