package cot_test

import (
	"math/rand"
	"slices"
	"testing"

	"trefoil/api"
	"trefoil/bits"
	"trefoil/cot"
)

// P19.2

func anySeeds(r *rand.Rand, n int) []api.Seed {
	l := make([]api.Seed, n)
	for i := range l {
		l[i] = anySeed(r)
	}
	return l
}

// isReceived holds what Receive makes against the chapter's words, number by number.
func isReceived(t *testing.T, width, n int, seeds []api.Seed, choices bits.Vec, fix []uint64) {
	t.Helper()
	own := received(t, width, n, seeds, choices, fix)
	for j, seed := range seeds {
		for i, number := range numbersOf(t, seed, width, n) {
			at := j*n + i
			parts := []uint64{number}
			if choices.Get(j) {
				parts = append(parts, fix[at])
			}
			if want := together(width, parts, nil); own[at] != want {
				t.Fatalf("by the choice %t the share %d of %d bits, %d each, is %x, not %x", choices.Get(j), at, width, n, own[at], want)
			}
		}
	}
}

// Against words that another program reckoned, at every width and count.
func TestReceiveOfKnownSeeds(t *testing.T) {
	r := rand.New(rand.NewSource(1))
	seeds := []api.Seed{rising(), full(), {}, full()}
	choices := vec(true, false, false, true)
	for width := 1; width <= 64; width++ {
		for n := 1; n <= 6; n++ {
			fix := anyNumbers(r, width, 4*n)
			own := received(t, width, n, seeds, choices, fix)
			for at := range own {
				parts := []uint64{knownWords(seeds[at/n])[at%n]}
				if at/n == 0 || at/n == 3 {
					parts = append(parts, fix[at])
				}
				if own[at] != together(width, parts, nil) {
					t.Fatalf("of the correction %d, %x of %d bits, %d each, Receive makes %x", at, fix[at], width, n, own[at])
				}
			}
		}
	}
}

func TestReceiveOfDrawnSeeds(t *testing.T) {
	r := rand.New(rand.NewSource(2))
	for width := 1; width <= 64; width++ {
		for n := 1; n <= 6; n++ {
			for _, transfers := range []int{0, 1, 2, 7} {
				for _, choices := range []bits.Vec{anyBits(r, transfers), blank(transfers), blank(transfers).Not()} {
					isReceived(t, width, n, anySeeds(r, transfers), choices, anyNumbers(r, width, n*transfers))
				}
			}
		}
	}
}

func TestReceiveOfManySeeds(t *testing.T) {
	r := rand.New(rand.NewSource(3))
	for _, transfers := range []int{63, 64, 65, 512, 513, 4096, 4097, 70000} { // no limit is named
		isReceived(t, 17, 2, anySeeds(r, transfers), anyBits(r, transfers), anyNumbers(r, 17, 2*transfers))
	}
}

func TestReceiveOfEdges(t *testing.T) {
	seeds := []api.Seed{rising(), {}, full(), rising(), {}, full()}
	choices := vec(true, true, true, false, false, false)
	for width := 1; width <= 64; width++ {
		for _, x := range []uint64{0, 1, greatest(width), 1 << (width - 1)} {
			for n := 1; n <= 6; n++ {
				isReceived(t, width, n, seeds, choices, slices.Repeat([]uint64{x}, 6*n))
			}
		}
	}
}

// Each transfer goes by its own choice, and by its own numbers.
func TestSingleChoices(t *testing.T) {
	r := rand.New(rand.NewSource(4))
	const transfers, n, width = 70, 3, 30
	seeds := anySeeds(r, transfers)
	fix := slices.Repeat([]uint64{1}, transfers*n)
	none := received(t, width, n, seeds, blank(transfers), fix)
	for j := range transfers {
		choices, _ := blank(transfers).With(j, true)
		one := received(t, width, n, seeds, choices, fix)
		for at := range one {
			want := uint64(0)
			if at/n == j {
				want = 1
			}
			if together(width, one[at:at+1], none[at:at+1]) != want {
				t.Fatalf("by the choice %d alone the share %d is %x, and %x by none", j, at, one[at], none[at])
			}
		}
	}
}

func TestReceiveOfNothing(t *testing.T) {
	for width := 1; width <= 64; width++ {
		for n := 1; n <= 6; n++ {
			received(t, width, n, nil, bits.Vec{}, nil)
			received(t, width, n, []api.Seed{}, blank(0), []uint64{})
			notReceived(t, width, n, nil, bits.Vec{}, make([]uint64, n))
			notReceived(t, width, n, make([]api.Seed, 1), blank(1), nil)
			notReceived(t, width, n, nil, blank(1), nil)
			notReceived(t, width, n, nil, blank(1), make([]uint64, n))
			notReceived(t, width, n, make([]api.Seed, 1), bits.Vec{}, nil)
			notReceived(t, width, n, make([]api.Seed, 1), bits.Vec{}, make([]uint64, n))
		}
	}
}

func TestNotAsManyChoicesAsSeeds(t *testing.T) {
	for seeds := range 8 {
		for choices := range 70 {
			if choices == seeds {
				continue
			}
			for _, n := range []int{1, 2, 6} {
				notReceived(t, 8, n, make([]api.Seed, seeds), blank(choices), make([]uint64, n*seeds))
				notReceived(t, 8, n, make([]api.Seed, seeds), blank(choices).Not(), make([]uint64, n*choices))
			}
		}
	}
}

// Corrections as great as they may be are taken, and those that are 1 greater are not, whatever was chosen.
func TestReceiveOfGreatestCorrections(t *testing.T) {
	seeds := []api.Seed{rising(), {}, full()}
	for _, choices := range []bits.Vec{blank(3), blank(3).Not()} {
		for width := 1; width <= 63; width++ {
			fix := slices.Repeat([]uint64{greatest(width)}, 6)
			isReceived(t, width, 2, seeds, choices, fix)
			fix[5]++
			notReceived(t, width, 2, seeds, choices, fix)
			isReceived(t, width+1, 2, seeds, choices, fix)
		}
		isReceived(t, 64, 2, seeds, choices, slices.Repeat([]uint64{top}, 6))
	}
}

func TestBehindErrorsReceiveIsAsBefore(t *testing.T) {
	c := knownCases()[3]
	choices := vec(true, false, true)
	seeds := picked(knownPairs(), choices)
	cot.Receive(0, c.n, seeds, choices, c.fix)
	cot.Receive(c.width, 7, seeds, choices, c.fix)
	cot.Receive(1, c.n, seeds, choices, c.fix)
	cot.Receive(c.width, c.n, seeds, blank(4), c.fix)
	if own, code := cot.Receive(c.width, c.n, seeds, choices, c.fix); code != api.OK || !slices.Equal(own, c.got) {
		t.Errorf("behind errors Receive makes %x, with %d", own, code)
	}
}
