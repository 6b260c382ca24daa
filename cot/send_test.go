package cot_test

import (
	"math/rand"
	"slices"
	"testing"

	"trefoil/api"
	"trefoil/cot"
	"trefoil/rot"
)

// P19.1

// isSent holds what Send makes against the chapter's words, number by number.
func isSent(t *testing.T, width, n int, pairs []rot.Pair, xs []uint64) {
	t.Helper()
	fix, own := sent(t, width, n, pairs, xs)
	for j, pair := range pairs {
		zero, one := numbersOf(t, pair.Zero, width, n), numbersOf(t, pair.One, width, n)
		for i := range n {
			at := j*n + i
			if want := together(width, []uint64{xs[at], zero[i]}, one[i:i+1]); fix[at] != want {
				t.Fatalf("the correction %d of %d bits, %d each, is %x, not %x", at, width, n, fix[at], want)
			}
			if want := together(width, nil, zero[i:i+1]); own[at] != want {
				t.Fatalf("the share %d of %d bits, %d each, is %x, not %x", at, width, n, own[at], want)
			}
		}
	}
}

// Against words that another program reckoned, at every width and count.
func TestSendOfKnownSeeds(t *testing.T) {
	r := rand.New(rand.NewSource(1))
	for width := 1; width <= 64; width++ {
		for n := 1; n <= 6; n++ {
			xs := anyNumbers(r, width, 3*n)
			fix, own := sent(t, width, n, knownPairs(), xs)
			for at := range fix {
				pair := knownPairs()[at/n]
				zero, one := knownWords(pair.Zero)[at%n], knownWords(pair.One)[at%n]
				if fix[at] != together(width, []uint64{xs[at], zero}, []uint64{one}) || own[at] != together(width, nil, []uint64{zero}) {
					t.Fatalf("of the number %d, %x of %d bits, %d each, Send makes %x and %x", at, xs[at], width, n, fix[at], own[at])
				}
			}
		}
	}
}

func TestSendOfDrawnPairs(t *testing.T) {
	r := rand.New(rand.NewSource(2))
	for width := 1; width <= 64; width++ {
		for n := 1; n <= 6; n++ {
			for _, transfers := range []int{0, 1, 2, 7} {
				isSent(t, width, n, anyPairs(r, transfers), anyNumbers(r, width, n*transfers))
			}
		}
	}
}

func TestSendOfManyPairs(t *testing.T) {
	r := rand.New(rand.NewSource(3))
	for _, transfers := range []int{512, 513, 4096, 4097, 70000} { // no limit is named
		isSent(t, 17, 2, anyPairs(r, transfers), anyNumbers(r, 17, 2*transfers))
	}
}

func TestSendOfEdges(t *testing.T) {
	pairs := append(knownPairs(), rot.Pair{}, rot.Pair{Zero: full(), One: full()})
	for width := 1; width <= 64; width++ {
		for _, x := range []uint64{0, 1, greatest(width), 1 << (width - 1)} {
			for n := 1; n <= 6; n++ {
				isSent(t, width, n, pairs, slices.Repeat([]uint64{x}, 5*n))
			}
		}
	}
}

// Of pairs whose seeds are alike nothing but the numbers is left.
func TestSendOfPairsThatAreAlike(t *testing.T) {
	r := rand.New(rand.NewSource(4))
	seed := anySeed(r)
	xs := anyNumbers(r, 20, 9)
	fix, _ := sent(t, 20, 3, slices.Repeat([]rot.Pair{{Zero: seed, One: seed}}, 3), xs)
	if !slices.Equal(fix, xs) {
		t.Errorf("of %x the corrections are %x", xs, fix)
	}
}

func TestSendOfNothing(t *testing.T) {
	for width := 1; width <= 64; width++ {
		for n := 1; n <= 6; n++ {
			sent(t, width, n, nil, nil)
			sent(t, width, n, []rot.Pair{}, []uint64{})
			notSent(t, width, n, nil, make([]uint64, n))
			notSent(t, width, n, make([]rot.Pair, 1), nil)
		}
	}
}

// Numbers as great as they may be are taken, and those that are 1 greater are not.
func TestSendOfGreatestNumbers(t *testing.T) {
	pairs := knownPairs()
	for width := 1; width <= 63; width++ {
		xs := slices.Repeat([]uint64{greatest(width)}, 6)
		isSent(t, width, 2, pairs, xs)
		xs[5]++
		notSent(t, width, 2, pairs, xs)
		isSent(t, width+1, 2, pairs, xs)
	}
	isSent(t, 64, 2, pairs, slices.Repeat([]uint64{top}, 6))
}

func TestBehindErrorsSendIsAsBefore(t *testing.T) {
	c := knownCases()[3]
	cot.Send(0, c.n, knownPairs(), c.xs)
	cot.Send(c.width, 7, knownPairs(), c.xs)
	cot.Send(1, c.n, knownPairs(), c.xs)
	fix, own, code := cot.Send(c.width, c.n, knownPairs(), c.xs)
	if code != api.OK || !slices.Equal(fix, c.fix) || !slices.Equal(own, c.sent) {
		t.Errorf("behind errors Send makes %x and %x, with %d", fix, own, code)
	}
}
