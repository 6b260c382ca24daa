package prg

import (
	"math"
	"slices"
	"testing"

	"trefoil/api"
)

// These look inside: no seed is known of which 64 words in a row are thrown away, and a stream's end is 2^27 words off.

// told makes a source that tells words of a list, and counts them.
type told struct {
	words []uint64
	count int
}

func (x *told) next() (uint64, api.Errno) {
	if x.count == len(x.words) {
		return 0, api.ErrLimit
	}
	x.count++
	return x.words[x.count-1], api.OK
}

func sifted(t *testing.T, n uint64, words []uint64, left uint64, code api.Errno, count int) {
	t.Helper()
	x := &told{words: words}
	if got, e := sift(n, x.next); got != left || e != code || x.count != count {
		t.Errorf("of %d words below %d: %d, %d behind %d, not %d, %d behind %d", len(words), n, got, e, x.count, left, code, count)
	}
}

// P7.3

func TestTheStreamsEnd(t *testing.T) {
	seed := api.Seed{1, 2, 3}
	last, code := Words(seed, 4, 1<<27-2, 2)
	if code != api.OK {
		t.Fatal(code)
	}
	x := New(seed, 4)
	x.told = 1<<27 - 2
	for i, want := range last {
		if word, code := x.Next(); word != want || code != api.OK || x.At() != 1<<27-1+i {
			t.Errorf("Next is %d, %d; At is %d", word, code, x.At())
		}
	}
	for range 3 {
		if word, code := x.Next(); word != 0 || code != api.ErrLimit || x.At() != 1<<27 {
			t.Errorf("Next behind the end is %d, %d; At is %d", word, code, x.At())
		}
		if left, code := x.Below(6); left != 0 || code != api.ErrLimit || x.At() != 1<<27 {
			t.Errorf("Below behind the end is %d, %d; At is %d", left, code, x.At())
		}
		if left, code := x.Below(0); left != 0 || code != api.ErrArg || x.At() != 1<<27 {
			t.Errorf("Below(0) behind the end is %d, %d; At is %d", left, code, x.At())
		}
	}
}

// P7.4

func TestOnlyWordsBelowCutAreTaken(t *testing.T) {
	const top = math.MaxUint64
	sifted(t, 3, []uint64{top}, 0, api.ErrLimit, 1)
	sifted(t, 3, []uint64{top - 1}, 2, api.OK, 1)
	sifted(t, 10, []uint64{top, top - 5, 47}, 7, api.OK, 3)
	sifted(t, 10, []uint64{top - 6, 47}, 9, api.OK, 1)
	sifted(t, 4, []uint64{top}, 3, api.OK, 1)
	sifted(t, 1, []uint64{top}, 0, api.OK, 1)
	sifted(t, 1<<63, []uint64{top}, top>>1, api.OK, 1)
	sifted(t, 1<<63+1, []uint64{1<<63 + 1, 1 << 63}, 1<<63, api.OK, 2)
	sifted(t, top, []uint64{top, top - 1}, top-1, api.OK, 2)
}

func TestTooManyWordsThrownAway(t *testing.T) {
	for _, n := range []uint64{3, 10, 1<<63 + 1, math.MaxUint64} {
		thrown := slices.Repeat([]uint64{math.MaxUint64}, 200)
		sifted(t, n, thrown, 0, api.ErrCount, 64)
		sifted(t, n, thrown[:64], 0, api.ErrCount, 64)
		sifted(t, n, thrown[:63], 0, api.ErrLimit, 63)
		sifted(t, n, append(slices.Clone(thrown[:63]), 2), 2, api.OK, 64)
		sifted(t, n, append(slices.Clone(thrown[:64]), 2), 0, api.ErrCount, 64)
	}
}

// P7.5

// As many of the last words that are taken come to each number, for bounds that leave some.
func TestTheLastWordsTakenAreAWholeRound(t *testing.T) {
	for _, n := range []uint64{3, 5, 6, 7, 10, 100, 257} {
		counts := make([]int, n)
		cut := Cut(n)
		for i := range n {
			left, code := sift(n, (&told{words: []uint64{cut - 1 - i}}).next)
			if code != api.OK {
				t.Fatalf("the word %d is thrown away for %d", cut-1-i, n)
			}
			counts[left]++
		}
		if slices.Min(counts) != 1 || slices.Max(counts) != 1 {
			t.Errorf("words come to the numbers below %d so often: %d", n, counts)
		}
	}
}
