package scalar_test

import (
	"math/big"
	"math/rand"
	"slices"
	"testing"

	"trefoil/api"
)

// P22.3

// isFinished holds C against the chapter's words, by numbers without a bound.
func isFinished(t *testing.T, width int, l []api.Share, sent, got []uint64) {
	t.Helper()
	for i, s := range finished(t, class(width), l, sent, got) {
		a, b := l[i].A[0], l[i].B[0]
		c := new(big.Int).Mul(bigger(a), bigger(b))
		for at := i * width; at < (i+1)*width; at++ {
			c.Add(c, bigger(sent[at]))
			c.Add(c, bigger(got[at]))
		}
		if !isSame(s, triple(a, b, cut(width, c))) {
			t.Fatalf("the share %d, %x of %d bits, becomes %x, not %x", i, l[i], width, s, cut(width, c))
		}
	}
}

func TestFinishOfEdges(t *testing.T) {
	for width := 1; width <= 64; width++ {
		for _, a := range edges(width) {
			for _, b := range edges(width) {
				for _, x := range []uint64{0, 1, greatest(width)} {
					l, shares := pairs([]uint64{a, b, b, a}), slices.Repeat([]uint64{x}, 2*width)
					isFinished(t, width, l, shares, make([]uint64, 2*width))
					isFinished(t, width, l, make([]uint64, 2*width), shares)
					isFinished(t, width, l, shares, shares)
				}
			}
		}
	}
}

func TestFinishOfDrawnShares(t *testing.T) {
	r := rand.New(rand.NewSource(1))
	for width := 1; width <= 64; width++ {
		for n := 1; n <= api.MaxBatch; n++ {
			isFinished(t, width, anyShares(r, width, n), anyNumbers(r, width, n*width), anyNumbers(r, width, n*width))
		}
	}
}

// Each number that was sent or got counts for its own share, and for no other one.
func TestFinishOfOneNumber(t *testing.T) {
	for _, width := range []int{1, 2, 5, 63, 64} {
		for at := range 3 * width {
			one, none := make([]uint64, 3*width), make([]uint64, 3*width)
			one[at] = greatest(width)
			isFinished(t, width, zeros(3), one, none)
			isFinished(t, width, zeros(3), none, one)
		}
	}
}

// Of both lists there must be as many as the shares' bits, whatever the other one has.
func TestFinishOfTooFewOrTooMany(t *testing.T) {
	for _, width := range []int{1, 2, 3, 8, 64} {
		for _, n := range []int{1, 2, 5} {
			whole := make([]uint64, n*width)
			for have := range (n+2)*width + 2 {
				if have == n*width {
					continue
				}
				other := make([]uint64, have)
				notFinished(t, class(width), zeros(n), other, whole, api.ErrShape)
				notFinished(t, class(width), zeros(n), whole, other, api.ErrShape)
				notFinished(t, class(width), zeros(n), other, other, api.ErrShape)
			}
			notFinished(t, class(width), zeros(n), nil, whole, api.ErrShape)
			notFinished(t, class(width), zeros(n), whole, nil, api.ErrShape)
		}
	}
}

// What one list has too few the other one doesn't make up for.
func TestFinishOfUnequalLists(t *testing.T) {
	const width, n = 8, 3
	for less := 1; less <= n; less++ {
		few, many := make([]uint64, (n-less)*width), make([]uint64, (n+less)*width)
		notFinished(t, class(width), zeros(n), few, many, api.ErrShape)
		notFinished(t, class(width), zeros(n), many, few, api.ErrShape)
	}
}

func TestFinishOfTooGreatNumbers(t *testing.T) {
	for width := 1; width <= 63; width++ {
		for at := range 2 * width {
			for _, wrong := range []uint64{1 << width, greatest(width) + 2, 1 << 63, top} {
				whole, other := make([]uint64, 2*width), make([]uint64, 2*width)
				other[at] = wrong
				notFinished(t, class(width), zeros(2), other, whole, api.ErrShape)
				notFinished(t, class(width), zeros(2), whole, other, api.ErrShape)
			}
		}
	}
}
