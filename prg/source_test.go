package prg_test

import (
	"math"
	"math/big"
	"math/rand"
	"slices"
	"testing"

	"trefoil/api"
	"trefoil/prg"
)

// next asks a source for a word, and whether it has told one more then.
func next(t *testing.T, x *prg.Source, want uint64) {
	t.Helper()
	at := x.At()
	if word, code := x.Next(); code != api.OK || word != want || x.At() != at+1 {
		t.Fatalf("Next behind %d words is %x, %d, not %x; At is %d", at, word, code, want, x.At())
	}
}

// P7.3

func TestNextTellsTheWords(t *testing.T) {
	r := rand.New(rand.NewSource(1))
	for _, seed := range []api.Seed{{}, rising(), anySeed(r)} {
		for _, lane := range []uint32{0, 1, 9, topLane} {
			x := prg.New(seed, lane)
			if x == nil || x.At() != 0 {
				t.Fatal("a new source has told words")
			}
			for _, want := range slowly(seed, lane).words(0, 300) {
				next(t, x, want)
			}
			if x.At() != 300 {
				t.Errorf("At is %d, not 300", x.At())
			}
		}
	}
}

func TestSourcesAreTheirOwn(t *testing.T) {
	seed := rising()
	words := slowly(seed, 4).words(0, 6)
	x, y := prg.New(seed, 4), prg.New(seed, 4)
	next(t, x, words[0])
	next(t, x, words[1])
	clear(seed[:])
	next(t, y, words[0])
	next(t, x, words[2])
	z := *x
	next(t, x, words[3])
	next(t, &z, words[3])
	next(t, x, words[4])
	next(t, y, words[1])
	if x.At() != 5 || y.At() != 2 || z.At() != 4 {
		t.Errorf("At is %d, %d, %d", x.At(), y.At(), z.At())
	}
}

func TestNoSource(t *testing.T) {
	for _, x := range []*prg.Source{nil, {}, new(prg.Source)} {
		for range 3 {
			if word, code := x.Next(); word != 0 || code != api.ErrNil {
				t.Errorf("Next of no source is %d, %d", word, code)
			}
			for _, n := range []uint64{0, 1, 6, math.MaxUint64} {
				if left, code := x.Below(n); left != 0 || code != api.ErrNil {
					t.Errorf("Below(%d) of no source is %d, %d", n, left, code)
				}
			}
			if x.At() != 0 {
				t.Errorf("At of no source is %d", x.At())
			}
		}
	}
}

// P7.4

// slowCut reckons in numbers without a bound.
func slowCut(n uint64) uint64 {
	if n == 0 {
		return 0
	}
	whole := new(big.Int).Lsh(big.NewInt(1), 64)
	bound := new(big.Int).SetUint64(n)
	multiple := new(big.Int).Mul(new(big.Int).Div(whole, bound), bound)
	if multiple.Cmp(whole) == 0 {
		return 0
	}
	return multiple.Uint64()
}

func TestCutOfKnownBounds(t *testing.T) {
	for _, c := range []struct{ n, want uint64 }{
		{0, 0},
		{1, 0},
		{2, 0},
		{3, math.MaxUint64},
		{4, 0},
		{5, math.MaxUint64},
		{6, 18446744073709551612},
		{7, 18446744073709551614},
		{10, 18446744073709551610},
		{1 << 32, 0},
		{1<<32 + 1, 18446744073709551615},
		{1<<63 - 1, 1<<64 - 2},
		{1 << 63, 0},
		{1<<63 + 1, 1<<63 + 1},
		{math.MaxUint64 - 1, math.MaxUint64 - 1},
		{math.MaxUint64, math.MaxUint64},
	} {
		if got := prg.Cut(c.n); got != c.want {
			t.Errorf("Cut(%d) is %d, not %d", c.n, got, c.want)
		}
	}
}

// someBounds are small ones, those about powers of 2, and drawn ones of all sizes.
func someBounds() []uint64 {
	var l []uint64
	for n := range uint64(3000) {
		l = append(l, n, math.MaxUint64-n)
	}
	for i := range 64 {
		l = append(l, 1<<i-1, 1<<i, 1<<i+1, math.MaxUint64/3>>i, math.MaxUint64>>i)
	}
	r := rand.New(rand.NewSource(2))
	for range 5000 {
		l = append(l, r.Uint64()>>r.Intn(64))
	}
	return l
}

func TestCutWithoutABound(t *testing.T) {
	for _, n := range someBounds() {
		if got, want := prg.Cut(n), slowCut(n); got != want {
			t.Fatalf("Cut(%d) is %d, not %d", n, got, want)
		}
	}
}

// below asks a source for a number below n, and holds it, and how many words were told, against the words by hand.
func below(t *testing.T, x *prg.Source, n uint64, words []uint64) {
	t.Helper()
	at, cut := x.At(), slowCut(n)
	last := at
	for cut != 0 && words[last] >= cut {
		last++
	}
	left, code := x.Below(n)
	if code != api.OK || left != words[last]%n || left >= n || x.At() != last+1 {
		t.Fatalf("Below(%d) behind %d words is %d, %d, At %d, not %d, At %d", n, at, left, code, x.At(), words[last]%n, last+1)
	}
}

func TestBelow(t *testing.T) {
	for _, n := range []uint64{1, 2, 3, 6, 7, 256, 1<<32 - 1, 1 << 32, 1<<62 + 1, 1 << 63, 1<<63 + 1, 1<<63 + 1<<62, math.MaxUint64 - 1, math.MaxUint64} {
		words := slowly(rising(), 3).words(0, 600)
		x := prg.New(rising(), 3)
		for range 200 {
			below(t, x, n, words)
		}
		if n == 1<<63+1 && x.At() < 300 {
			t.Errorf("of words of which half are thrown away %d were told for 200 numbers", x.At())
		}
	}
}

func TestBelowOfDrawnBounds(t *testing.T) {
	r := rand.New(rand.NewSource(3))
	for range 200 {
		seed, lane := anySeed(r), r.Uint32()
		words := slowly(seed, lane).words(0, 300)
		x := prg.New(seed, lane)
		for range 50 {
			if r.Intn(4) == 0 {
				next(t, x, words[x.At()])
			}
			below(t, x, max(1, r.Uint64()>>r.Intn(64)), words)
		}
	}
}

func TestBelowOfNothing(t *testing.T) {
	words := slowly(rising(), 8).words(0, 4)
	x := prg.New(rising(), 8)
	for i := range words {
		if left, code := x.Below(0); left != 0 || code != api.ErrArg || x.At() != i {
			t.Errorf("Below(0) is %d, %d, and At is %d, not %d", left, code, x.At(), i)
		}
		next(t, x, words[i])
	}
}

func TestTries(t *testing.T) {
	if prg.Tries != 64 {
		t.Errorf("Tries is %d", prg.Tries)
	}
}

// P7.5, of sources

func TestSourcesOfOneSeedTellTheSame(t *testing.T) {
	x := prg.New(rising(), 6)
	whole, _ := prg.Words(rising(), 6, 0, 500)
	var told []uint64
	for range 500 {
		word, _ := x.Next()
		told = append(told, word)
	}
	if !slices.Equal(told, whole) {
		t.Error("words one by one aren't the words at once")
	}
}

func TestBelowHasNoLean(t *testing.T) {
	const draws = 6000
	x := prg.New(rising(), 1)
	var counts [6]int
	for range draws {
		left, code := x.Below(6)
		if code != api.OK || left >= 6 {
			t.Fatalf("Below(6) is %d, %d", left, code)
		}
		counts[left]++
	}
	for left, count := range counts {
		if count < draws/6-150 || count > draws/6+150 { // five times what is usual: the seed is fixed, so that it holds always
			t.Errorf("%d comes %d times of %d", left, count, draws)
		}
	}
}

// With a bound of 3/4 of all words a lean would show: without Cut the lower third would come twice as often.
func TestBelowOfAGreatBoundHasNoLean(t *testing.T) {
	const draws, bound = 6000, 3 << 62
	x := prg.New(rising(), 2)
	low := 0
	for range draws {
		left, code := x.Below(bound)
		if code != api.OK || left >= bound {
			t.Fatalf("Below is %d, %d", left, code)
		}
		if left < bound/3 {
			low++
		}
	}
	if low < draws/3-200 || low > draws/3+200 {
		t.Errorf("the lower third comes %d times of %d", low, draws)
	}
}

func TestAsManyWordsComeToEachNumber(t *testing.T) {
	for _, n := range someBounds() {
		if cut := prg.Cut(n); n != 0 && cut%n != 0 && cut != 0 {
			t.Fatalf("Cut(%d) is %d, which is no multiple", n, cut)
		} else if n != 0 && cut == 0 && math.MaxUint64%n != n-1 {
			t.Fatalf("Cut(%d) is 0, and all words don't come to each number", n)
		}
	}
}
