package rot_test

import (
	"math"
	"math/rand"
	"slices"
	"testing"

	"trefoil/api"
	"trefoil/prg"
	"trefoil/rot"
)

// P18.3

// knownStreams tells seeds, and the first 36 words of their streams in the lane 1, which another program reckoned, of ChaCha20's own rule.
func knownStreams() map[api.Seed][]uint64 {
	return map[api.Seed][]uint64{
		rising(): {
			0x3a2e6e5309fb38d8, 0xa67362483ff2e810, 0xed81d740e6d8429f, 0x6425c3343c7984e3, 0x20b6c5d5e56143fc, 0x614c2f1928053b58,
			0xe68e39140e3af209, 0xa20e61cdf2dc7c53, 0x2a9ce3c4ee7b3f94, 0x5bdd3f6df3d35b77, 0x3dd9f92dd8f0b821, 0xcd11a11759f74095,
			0x29638740265cae61, 0x102eb602d285133b, 0x2d4012f19b7d1f40, 0x5ad73462534afc67, 0x4c57081dbde35b49, 0xf019884d719567c6,
			0x86be491749b3a85d, 0x9083b03d497ce54e, 0x695a7889b4680e46, 0x69494908d815ce58, 0x9931235228800233, 0x99c4fadad493de0b,
			0x9d3006c7ecb6e04f, 0xe9cef663e0da809e, 0xacb38a7eb1e0c713, 0x4a892d825050eb1e, 0x5465c278f5619892, 0x8075ead6be8950c8,
			0x2ff081a651c1cf70, 0xf31e72a8767451fb, 0x4df4e4e38e6049c0, 0x09d04040327f1cfc, 0x2eb6363414c122de, 0xf5270547bf44be2b,
		},
		{}: {
			0x2829d3a03a1db43d, 0xd54be2e625f2e65d, 0xc9d5436900179a9c, 0x3a68dc3b87e380b6, 0x9096989998461958, 0xaf5961c917cd81c2,
			0x618a4603b9b58206, 0x5a2b6209cf2802f5, 0xf1c815eeeff6f046, 0x08992bd949cb98b1, 0x23c70c4459519067, 0x1098262801c06d91,
			0xb04225aa6617ce39, 0x4842b19a80bdb35d, 0x99733e27e1bf5d9d, 0xaa8a7613324b7b63, 0xe29fe9759388b189, 0x5841f5ad684f2c44,
			0x9909d0135713b8f4, 0xf45ffeaae3382bb9, 0x4fc53dbe34189b95, 0xe021b12ed3a96ac3, 0x49267e7c0eb988f6, 0x942bdd7b40efaaf4,
			0xd4b54c1103ecef09, 0x7b89e10f8e78d1ff, 0x6883361e31c176d1, 0x03cac955eea557c6, 0xd52208034f7471cc, 0x24989d7ba986043a,
			0xd82b26afdefa7402, 0x1484a9dfe3bc581b, 0x9991fd17c55b4bc2, 0x2150b032622e6b3a, 0xdde221698af4c625, 0xae2acf4e3c6beba8,
		},
		full(): {
			0x1435a9347d4f74b6, 0x6ed89128c4a0a827, 0xe9840404d02b4e17, 0xd81ad7a64115c707, 0x00ab6214e061b445, 0xccfced7ee4b90412,
			0x30cb8ad3192d0dd1, 0x0a303e48a0d47926, 0x084f90e4d358e248, 0xe275bd4ec81b60d3, 0x73b3131445af5175, 0xe55e2e0cbfa8c786,
			0x98fc2a476e596847, 0xb9b7c99e899a7d63, 0x65e97fd0bc4c40f1, 0x9a6de9223dc4dccd, 0xc1ca02b1e6f346d7, 0x944412f5e9bd8c78,
			0x1b48d648500d5abe, 0x837a834a984b9070, 0xccc58952b57c500e, 0x65298332cc599c81, 0xd74860f2e510186e, 0x6c72be7d8b8be88f,
			0x69c398dd04cd4427, 0x130f0137dafe48ad, 0x59158e55f54f52bb, 0xb76425fd90808b09, 0xfce417fd9ef4f949, 0x51fbc3483c2cca31,
			0xdfefb767453a491d, 0xcd11e80af285fc3c, 0xf6c33be5edfa5675, 0xbb38bde0ab55fb93, 0x349b47093016945e, 0x912a3962f973c80c,
		},
	}
}

// cut tells the lowest bits of a word, bit by bit.
func cut(word uint64, width int) uint64 {
	low := uint64(0)
	for i := range width {
		low += word & (1 << i)
	}
	return low
}

// isNumbers holds Numbers against the first of a stream's words.
func isNumbers(t *testing.T, s api.Seed, width, n int, words []uint64) {
	t.Helper()
	l, code := rot.Numbers(s, width, n)
	if code != api.OK || len(l) != n {
		t.Fatalf("of %x there are %d numbers of %d bits, not %d, with %d", s, len(l), width, n, code)
	}
	for i, number := range l {
		if number != cut(words[i], width) {
			t.Fatalf("of %x the number %d of %d bits is %x", s, i, width, number)
		}
	}
}

func TestNumbersOfKnownSeeds(t *testing.T) {
	for seed, words := range knownStreams() {
		for width := 1; width <= 64; width++ {
			for n := range 37 {
				isNumbers(t, seed, width, n, words)
			}
		}
	}
}

func TestNumbersOfDrawnSeeds(t *testing.T) {
	r := rand.New(rand.NewSource(1))
	for range 500 {
		seed := anySeed(r)
		words, _ := prg.Words(seed, 1, 0, 36)
		isNumbers(t, seed, 1+r.Intn(64), r.Intn(37), words)
	}
}

func notNumbers(t *testing.T, width, n int, want api.Errno) {
	t.Helper()
	for _, seed := range []api.Seed{{}, rising(), full()} {
		if l, code := rot.Numbers(seed, width, n); code != want || len(l) != 0 {
			t.Errorf("Numbers of %d bits, %d of them: %d, with %d, not %d", width, n, len(l), code, want)
		}
	}
}

func TestNotNumbers(t *testing.T) {
	widths := []int{0, 65, 66, 127, 128, 192, 256, 1<<16 + 1, 1<<32 + 1, math.MaxInt64, -1, -2, -63, -64, -1 << 32, math.MinInt64, math.MinInt64 + 1}
	counts := []int{37, 38, 64, 100, 4096, 4097, 1 << 32, 1<<32 + 1, math.MaxInt64, -1, -2, -36, -1 << 32, math.MinInt64, math.MinInt64 + 1}
	for _, width := range widths {
		for _, n := range []int{0, 1, 2, 35, 36} {
			notNumbers(t, width, n, api.ErrShape)
		}
	}
	for _, n := range counts {
		for width := 1; width <= 64; width++ {
			notNumbers(t, width, n, api.ErrLimit)
		}
	}
	for _, width := range widths { // the width is named first
		for _, n := range counts {
			notNumbers(t, width, n, api.ErrShape)
		}
	}
}

// Fewer numbers are the first of more, and those of fewer bits the lower bits of those of more.
func TestNumbersAreCutOfOneStream(t *testing.T) {
	seed := anySeed(rand.New(rand.NewSource(2)))
	all, _ := rot.Numbers(seed, 64, 36)
	few, _ := rot.Numbers(seed, 64, 5)
	low, _ := rot.Numbers(seed, 12, 36)
	if !slices.Equal(few, all[:5]) {
		t.Errorf("five numbers are %x", few)
	}
	for i := range low {
		if low[i] != all[i]%4096 {
			t.Errorf("the number %d of 12 bits is %x, and of 64 %x", i, low[i], all[i])
		}
	}
}
