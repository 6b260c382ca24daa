package rot_test

import (
	"math/rand"
	"slices"
	"testing"

	"trefoil/api"
	"trefoil/bits"
	"trefoil/rot"
)

// P18.4

func anyPairs(r *rand.Rand, n int) []rot.Pair {
	l := make([]rot.Pair, n)
	for i := range l {
		l[i] = rot.Pair{Zero: anySeed(r), One: anySeed(r)}
	}
	return l
}

// picked tells the seeds that choices choose.
func picked(pairs []rot.Pair, choices bits.Vec) []api.Seed {
	l := make([]api.Seed, len(pairs))
	for j, pair := range pairs {
		l[j] = pair.Zero
		if choices.Get(j) {
			l[j] = pair.One
		}
	}
	return l
}

func TestChosenOfKnownSeeds(t *testing.T) {
	pair := rot.Pair{Zero: api.Seed{1}, One: api.Seed{2}}
	for _, c := range []struct {
		seed         api.Seed
		choice, want bool
	}{
		{api.Seed{1}, false, true},
		{api.Seed{1}, true, false},
		{api.Seed{2}, true, true},
		{api.Seed{2}, false, false},
		{api.Seed{3}, false, false},
		{api.Seed{3}, true, false},
		{api.Seed{}, false, false},
		{api.Seed{}, true, false},
	} {
		if got := rot.Chosen([]rot.Pair{pair}, []api.Seed{c.seed}, vec(c.choice)); got != c.want {
			t.Errorf("Chosen of %x by %t is %t", c.seed, c.choice, got)
		}
	}
	if !rot.Chosen([]rot.Pair{pair, pair}, []api.Seed{{1}, {2}}, vec(false, true)) {
		t.Error("two seeds aren't chosen")
	}
	if rot.Chosen([]rot.Pair{pair, pair}, []api.Seed{{1}, {2}}, vec(true, false)) {
		t.Error("two seeds are chosen by each other's choices")
	}
	if !rot.Chosen([]rot.Pair{{}}, []api.Seed{{}}, vec(false)) || !rot.Chosen([]rot.Pair{{}}, []api.Seed{{}}, vec(true)) {
		t.Error("of a pair that is alike none is chosen")
	}
}

func TestChosenOfDrawnSeeds(t *testing.T) {
	r := rand.New(rand.NewSource(1))
	for _, n := range []int{1, 2, 63, 64, 65, 200, 4096, 4097, 70000} { // no limit is named
		pairs := anyPairs(r, n)
		for _, choices := range []bits.Vec{anyBits(r, n), blank(n), blank(n).Not()} {
			if !rot.Chosen(pairs, picked(pairs, choices), choices) {
				t.Errorf("%d seeds aren't chosen", n)
			}
			if rot.Chosen(pairs, picked(pairs, choices), choices.Not()) {
				t.Errorf("%d seeds are chosen by the other choices", n)
			}
		}
	}
}

// One bit alone, wherever it is turned, is told.
func TestNotChosenBySingleBits(t *testing.T) {
	r := rand.New(rand.NewSource(2))
	const n = 130
	pairs, choices := anyPairs(r, n), anyBits(r, n)
	seeds := picked(pairs, choices)
	for j := range n {
		for _, i := range []int{0, 7, 8, 127, 128, 255, r.Intn(256)} {
			turn := func(s *api.Seed) { s[i/8] ^= 1 << (i % 8) }
			turn(&seeds[j])
			if rot.Chosen(pairs, seeds, choices) {
				t.Fatalf("with another bit %d of the seed %d they are chosen", i, j)
			}
			turn(&seeds[j])
			turn(&pairs[j].One)
			if rot.Chosen(pairs, seeds, choices) == choices.Get(j) {
				t.Fatalf("another bit %d of the One %d counts where the choice is 0, or doesn't where it is 1", i, j)
			}
			turn(&pairs[j].One)
			turn(&pairs[j].Zero)
			if rot.Chosen(pairs, seeds, choices) != choices.Get(j) {
				t.Fatalf("another bit %d of the Zero %d counts where the choice is 1, or doesn't where it is 0", i, j)
			}
			turn(&pairs[j].Zero)
		}
		turned, _ := choices.With(j, !choices.Get(j))
		if rot.Chosen(pairs, seeds, turned) {
			t.Fatalf("with another choice %d they are chosen", j)
		}
	}
	if !rot.Chosen(pairs, seeds, choices) {
		t.Error("what was turned back isn't chosen")
	}
}

func TestNotChosenOfOtherNumbers(t *testing.T) {
	pairs, seeds := make([]rot.Pair, 200), make([]api.Seed, 200) // all alike, so that nothing but their numbers tells them apart
	numbers := []int{0, 1, 2, 63, 64, 65, 128, 200}
	for _, a := range numbers {
		for _, b := range numbers {
			for _, c := range numbers {
				if got := rot.Chosen(pairs[:a], seeds[:b], blank(c)); got != (a == b && b == c) {
					t.Errorf("Chosen of %d pairs, %d seeds and %d choices is %t", a, b, c, got)
				}
			}
		}
	}
}

func TestChosenOfNothing(t *testing.T) {
	if !rot.Chosen(nil, nil, bits.Vec{}) || !rot.Chosen([]rot.Pair{}, nil, blank(0)) || !rot.Chosen(nil, []api.Seed{}, bits.Vec{}) {
		t.Error("of nothing none isn't chosen")
	}
}

func isCoins(t *testing.T, seeds []api.Seed) {
	t.Helper()
	v, code := rot.Coins(seeds)
	if code != api.OK || v.Len() != len(seeds) {
		t.Fatalf("of %d seeds there are %d coins, with %d", len(seeds), v.Len(), code)
	}
	for j, seed := range seeds {
		if v.Get(j) != (seed[0]%2 == 1) {
			t.Fatalf("the coin of the seed %d, %x, is %t", j, seed, v.Get(j))
		}
	}
}

func TestCoinsOfFirstBytes(t *testing.T) {
	seeds := make([]api.Seed, 256)
	for i := range seeds {
		seeds[i][0] = byte(i)
	}
	isCoins(t, seeds)
	isCoins(t, []api.Seed{{1}, {2}})
}

// No other bit of a seed counts.
func TestCoinsOfSingleBits(t *testing.T) {
	for i := range 256 {
		var seed api.Seed
		seed[i/8] = 1 << (i % 8)
		other := full()
		other[i/8] ^= 1 << (i % 8)
		v, code := rot.Coins([]api.Seed{seed, other})
		if code != api.OK || v.Len() != 2 || v.Get(0) != (i == 0) || v.Get(1) != (i != 0) {
			t.Errorf("of the bit %d alone, and of all others, the coins are %v, with %d", i, v.Bools(), code)
		}
	}
}

func TestCoinsOfDrawnSeeds(t *testing.T) {
	r := rand.New(rand.NewSource(3))
	for _, n := range []int{0, 1, 2, 7, 8, 9, 63, 64, 65, 127, 128, 129, 4096, 4097} {
		isCoins(t, anySeeds(r, n))
	}
	isCoins(t, nil)
}

// There are as many coins as a Vec has room for, and not one more.
func TestCoinsOfTooManySeeds(t *testing.T) {
	const most = 1 << 22
	seeds := slices.Repeat([]api.Seed{{1}, {2}, {4}}, most/3+1)
	isCoins(t, seeds[:most])
	for _, n := range []int{most + 1, len(seeds)} {
		if v, code := rot.Coins(seeds[:n]); code != api.ErrLimit || v.Len() != 0 {
			t.Errorf("of %d seeds there are %d coins, with %d", n, v.Len(), code)
		}
	}
}
