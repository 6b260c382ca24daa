package cot_test

import (
	"math"
	"math/big"
	"math/rand"
	"slices"
	"testing"

	"trefoil/api"
	"trefoil/bits"
	"trefoil/cot"
	"trefoil/rot"
)

const top = math.MaxUint64

// rising is the seed of the bytes 0, 1, 2 ..
func rising() api.Seed {
	var seed api.Seed
	for i := range seed {
		seed[i] = byte(i)
	}
	return seed
}

// full is the seed of all bits.
func full() api.Seed {
	var seed api.Seed
	for i := range seed {
		seed[i] = 255
	}
	return seed
}

// knownPairs tells pairs of three seeds, of whose streams another program reckoned what knownWords tells.
func knownPairs() []rot.Pair {
	return []rot.Pair{{Zero: rising(), One: full()}, {Zero: api.Seed{}, One: rising()}, {Zero: full(), One: api.Seed{}}}
}

// knownWords tells the first six words of a seed's stream in the lane 1, which another program reckoned, of ChaCha20's own rule.
func knownWords(seed api.Seed) []uint64 {
	switch seed {
	case rising():
		return []uint64{0x3a2e6e5309fb38d8, 0xa67362483ff2e810, 0xed81d740e6d8429f, 0x6425c3343c7984e3, 0x20b6c5d5e56143fc, 0x614c2f1928053b58}
	case full():
		return []uint64{0x1435a9347d4f74b6, 0x6ed89128c4a0a827, 0xe9840404d02b4e17, 0xd81ad7a64115c707, 0x00ab6214e061b445, 0xccfced7ee4b90412}
	}
	return []uint64{0x2829d3a03a1db43d, 0xd54be2e625f2e65d, 0xc9d5436900179a9c, 0x3a68dc3b87e380b6, 0x9096989998461958, 0xaf5961c917cd81c2}
}

func anySeed(r *rand.Rand) api.Seed {
	var seed api.Seed
	r.Read(seed[:])
	return seed
}

func anyPairs(r *rand.Rand, n int) []rot.Pair {
	l := make([]rot.Pair, n)
	for i := range l {
		l[i] = rot.Pair{Zero: anySeed(r), One: anySeed(r)}
	}
	return l
}

// anyNumbers draws numbers of so many bits, among them the least and the greatest one.
func anyNumbers(r *rand.Rand, width, n int) []uint64 {
	l := make([]uint64, n)
	for i := range l {
		switch r.Intn(8) {
		case 0:
		case 1:
			l[i] = greatest(width)
		default:
			l[i] = r.Uint64() >> (64 - width)
		}
	}
	return l
}

// greatest tells the greatest number of so many bits.
func greatest(width int) uint64 {
	n := uint64(0)
	for i := range width {
		n += 1 << i
	}
	return n
}

func anyBits(r *rand.Rand, n int) bits.Vec {
	words := make([]uint64, (n+63)/64)
	for i := range words {
		words[i] = r.Uint64()
	}
	v, _ := bits.Words(n, words)
	return v
}

func blank(n int) bits.Vec {
	v, _ := bits.New(n)
	return v
}

func vec(l ...bool) bits.Vec {
	v, _ := bits.Of(l)
	return v
}

// picked tells the seeds that choices choose.
func picked(pairs []rot.Pair, choices bits.Vec) []api.Seed {
	l := make([]api.Seed, len(pairs))
	for j, pair := range pairs {
		l[j] = pair.Zero
		if choices.Get(j) {
			l[j] = pair.One
		}
	}
	return l
}

// together tells a sum of so many bits, by numbers without a bound: all plus, less all minus.
func together(width int, plus, minus []uint64) uint64 {
	sum := new(big.Int)
	for _, x := range plus {
		sum.Add(sum, new(big.Int).SetUint64(x))
	}
	for _, x := range minus {
		sum.Sub(sum, new(big.Int).SetUint64(x))
	}
	return sum.Mod(sum, new(big.Int).Lsh(big.NewInt(1), uint(width))).Uint64()
}

// numbersOf tells a seed's numbers.
func numbersOf(t *testing.T, seed api.Seed, width, n int) []uint64 {
	t.Helper()
	l, code := rot.Numbers(seed, width, n)
	if code != api.OK {
		t.Fatal(code)
	}
	return l
}

func sent(t *testing.T, width, n int, pairs []rot.Pair, xs []uint64) (fix, own []uint64) {
	t.Helper()
	fix, own, code := cot.Send(width, n, pairs, xs)
	if code != api.OK || len(fix) != len(xs) || len(own) != len(xs) {
		t.Fatalf("of %d numbers of %d bits, %d each, Send makes %d and %d, with %d", len(xs), width, n, len(fix), len(own), code)
	}
	return fix, own
}

func received(t *testing.T, width, n int, seeds []api.Seed, choices bits.Vec, fix []uint64) []uint64 {
	t.Helper()
	own, code := cot.Receive(width, n, seeds, choices, fix)
	if code != api.OK || len(own) != len(fix) {
		t.Fatalf("of %d corrections of %d bits, %d each, Receive makes %d, with %d", len(fix), width, n, len(own), code)
	}
	return own
}

func opened(t *testing.T, width int, a, b []uint64) []uint64 {
	t.Helper()
	l, code := cot.Open(width, a, b)
	if code != api.OK || len(l) != len(a) {
		t.Fatalf("%d shares of %d bits open to %d, with %d", len(a), width, len(l), code)
	}
	return l
}

// known is what another program reckoned for knownPairs: of numbers the corrections and the sender's shares, and the shares of who chose the first and the third.
type known struct {
	width, n           int
	xs, fix, sent, got []uint64
}

func knownCases() []known {
	return []known{
		{1, 1, []uint64{0x1, 0x0, 0x1},
			[]uint64{0x1, 0x1, 0x0},
			[]uint64{0x0, 0x1, 0x0},
			[]uint64{0x1, 0x1, 0x1}},
		{1, 2, []uint64{0x1, 0x0, 0x0, 0x1, 0x1, 0x1},
			[]uint64{0x1, 0x1, 0x1, 0x0, 0x0, 0x1},
			[]uint64{0x0, 0x0, 0x1, 0x1, 0x0, 0x1},
			[]uint64{0x1, 0x0, 0x1, 0x1, 0x1, 0x0}},
		{8, 1, []uint64{0x7, 0x0, 0xff},
			[]uint64{0x29, 0x65, 0x78},
			[]uint64{0x28, 0xc3, 0x4a},
			[]uint64{0xdf, 0x3d, 0xb5}},
		{8, 3, []uint64{0x1, 0x2, 0x3, 0x64, 0xc8, 0xff, 0x0, 0x80, 0x40},
			[]uint64{0x23, 0xeb, 0x8b, 0xc9, 0x15, 0xfc, 0x79, 0x4a, 0xbb},
			[]uint64{0x28, 0xf0, 0x61, 0xc3, 0xa3, 0x64, 0x4a, 0xd9, 0xe9},
			[]uint64{0xd9, 0x12, 0xa2, 0x3d, 0x5d, 0x9c, 0xb6, 0xa7, 0x57}},
		{13, 2, []uint64{0x1fff, 0x1, 0x0, 0x1000, 0x4d, 0x4e},
			[]uint64{0x421, 0x1fea, 0x1b65, 0xe4d, 0xc6, 0x218},
			[]uint64{0x728, 0x17f0, 0xbc3, 0x19a3, 0xb4a, 0x17d9},
			[]uint64{0x18d7, 0x811, 0x143d, 0x65d, 0x1503, 0x875}},
		{32, 1, []uint64{0xffffffff, 0x0, 0x1},
			[]uint64{0x8cabc421, 0x30227b65, 0x4331c07a},
			[]uint64{0xf604c728, 0xc5e24bc3, 0x82b08b4a},
			[]uint64{0x9fb38d7, 0x3a1db43d, 0x7d4f74b7}},
		{33, 2, []uint64{0x1ffffffff, 0x0, 0x1, 0x100000000, 0x5, 0x6},
			[]uint64{0x8cabc421, 0x17b523fe9, 0x130227b66, 0xe5fffe4d, 0x4331c07e, 0x9eadc1d0},
			[]uint64{0xf604c728, 0x1c00d17f0, 0x1c5e24bc3, 0x1da0d19a3, 0x182b08b4a, 0x13b5f57d9},
			[]uint64{0x109fb38d7, 0x3ff2e810, 0x3a1db43d, 0x25f2e65d, 0x7d4f74bb, 0xc4a0a82d}},
		{63, 1, []uint64{0x7fffffffffffffff, 0x4000000000000000, 0x9},
			[]uint64{0x25f8c51e8cabc421, 0x2dfb654d30227b65, 0x6c0bd5944331c082},
			[]uint64{0x45d191acf604c728, 0x57d62c5fc5e24bc3, 0x6bca56cb82b08b4a},
			[]uint64{0x3a2e6e5309fb38d7, 0x2829d3a03a1db43d, 0x1435a9347d4f74bf}},
		{64, 1, []uint64{0xffffffffffffffff, 0x8000000000000000, 0x9},
			[]uint64{0x25f8c51e8cabc421, 0x6dfb654d30227b65, 0xec0bd5944331c082},
			[]uint64{0xc5d191acf604c728, 0xd7d62c5fc5e24bc3, 0xebca56cb82b08b4a},
			[]uint64{0x3a2e6e5309fb38d7, 0x2829d3a03a1db43d, 0x1435a9347d4f74bf}},
		{64, 2, []uint64{0x0, 0x9e3779b97f4a7c15, 0x3c6ef372fe94f82a, 0xdaa66d2c7ddf743f, 0x78dde6e5fd29f054, 0x1715609f7c746c69},
			[]uint64{0x25f8c51e8cabc422, 0xd5d24ad8fa9cbbfe, 0x2a6a58c02eb7738f, 0x97eedca63df728c, 0x64e9bc7a405bb0cd, 0xb0a20ee21b222e33},
			[]uint64{0xc5d191acf604c728, 0x598c9db7c00d17f0, 0xd7d62c5fc5e24bc3, 0x2ab41d19da0d19a3, 0xebca56cb82b08b4a, 0x91276ed73b5f57d9},
			[]uint64{0x3a2e6e5309fb38d8, 0x44aadc01bf3d6425, 0x2829d3a03a1db43d, 0xd54be2e625f2e65d, 0x8d13901a7a79650a, 0x85edf1c841151490}},
	}
}

func TestKnownCases(t *testing.T) {
	choices := vec(true, false, true)
	seeds := picked(knownPairs(), choices)
	for _, c := range knownCases() {
		fix, own := sent(t, c.width, c.n, knownPairs(), c.xs)
		if !slices.Equal(fix, c.fix) || !slices.Equal(own, c.sent) {
			t.Errorf("of %x Send makes %x and %x", c.xs, fix, own)
		}
		if got := received(t, c.width, c.n, seeds, choices, c.fix); !slices.Equal(got, c.got) {
			t.Errorf("of %x Receive makes %x", c.fix, got)
		}
	}
}
