package cot_test

import (
	"math/rand"
	"slices"
	"testing"

	"trefoil/api"
	"trefoil/baseot"
	"trefoil/bits"
	"trefoil/cot"
	"trefoil/iknp"
	"trefoil/rot"
)

// P19.4

// isShared holds that both shares come to the numbers where the choice is 1, and to 0 else.
func isShared(t *testing.T, width, n int, pairs []rot.Pair, seeds []api.Seed, choices bits.Vec, xs []uint64) {
	t.Helper()
	if !rot.Chosen(pairs, seeds, choices) {
		t.Fatal("the seeds aren't chosen")
	}
	fix, own := sent(t, width, n, pairs, xs)
	got := opened(t, width, own, received(t, width, n, seeds, choices, fix))
	for at := range got {
		want := uint64(0)
		if choices.Get(at / n) {
			want = xs[at]
		}
		if got[at] != want {
			t.Fatalf("by the choice %t the number %d, %x of %d bits, %d each, comes to %x", choices.Get(at/n), at, xs[at], width, n, got[at])
		}
	}
}

// The chapter's example: of one transfer with x = 7.
func TestOneTransfer(t *testing.T) {
	r := rand.New(rand.NewSource(1))
	for range 500 {
		pairs := anyPairs(r, 1)
		fix, own := sent(t, 8, 1, pairs, []uint64{7})
		for choice, want := range []uint64{0, 7} {
			choices := vec(choice == 1)
			got := received(t, 8, 1, picked(pairs, choices), choices, fix)
			if sum := opened(t, 8, own, got); sum[0] != want {
				t.Errorf("with the choice %d both come to %d", choice, sum[0])
			}
		}
	}
}

func TestChosenSeedsShareProducts(t *testing.T) {
	r := rand.New(rand.NewSource(2))
	for width := 1; width <= 64; width++ {
		for n := 1; n <= 6; n++ {
			for _, transfers := range []int{0, 1, 2, 65} {
				pairs := anyPairs(r, transfers)
				for _, choices := range []bits.Vec{anyBits(r, transfers), blank(transfers), blank(transfers).Not()} {
					isShared(t, width, n, pairs, picked(pairs, choices), choices, anyNumbers(r, width, n*transfers))
				}
			}
		}
	}
}

// All the way from what was dealt.
func TestExtendedTransfersShareProducts(t *testing.T) {
	r := rand.New(rand.NewSource(3))
	for _, c := range []struct {
		from                uint64
		width, n, transfers int
	}{{0, 8, 1, 1}, {7, 64, 6, 40}, {1000, 1, 1, 512}, {511, 33, 4, 96}, {1<<26 - 4096, 16, 2, 4096}} {
		first, second := baseot.Deal(anySeed(r), r.Uint64())
		for _, way := range []struct {
			s baseot.Sender
			v baseot.Receiver
		}{{first.Send, second.Recv}, {second.Send, first.Recv}} {
			choices := anyBits(r, c.transfers)
			cols, own, code := iknp.Receive(way.v, c.from, choices)
			if code != api.OK {
				t.Fatal(code)
			}
			rows, code := iknp.Send(way.s, c.from, cols)
			if code != api.OK {
				t.Fatal(code)
			}
			pairs, seeds := rot.Send(way.s.Delta, c.from, rows), rot.Receive(c.from, own)
			isShared(t, c.width, c.n, pairs, seeds, choices, anyNumbers(r, c.width, c.n*c.transfers))
		}
	}
}

// Whatever the numbers are, it is the same.
func TestTheSendersShareHangsOnThePairsAlone(t *testing.T) {
	r := rand.New(rand.NewSource(4))
	for width := 1; width <= 64; width++ {
		for n := 1; n <= 6; n++ {
			pairs := anyPairs(r, 5)
			_, own := sent(t, width, n, pairs, make([]uint64, 5*n))
			for range 3 {
				if _, other := sent(t, width, n, pairs, anyNumbers(r, width, 5*n)); !slices.Equal(own, other) {
					t.Fatalf("of other numbers of %d bits, %d each, the sender's shares are others", width, n)
				}
			}
		}
	}
}

// With a seed that wasn't chosen, or a correction that isn't the one that was sent, the shares come to others: the one or the other isn't left aside.
func TestOthersAreNotShared(t *testing.T) {
	r := rand.New(rand.NewSource(5))
	pairs, choices := anyPairs(r, 6), vec(true, false, true, true, false, false)
	xs := anyNumbers(r, 64, 12)
	fix, own := sent(t, 64, 2, pairs, xs)
	right := opened(t, 64, own, received(t, 64, 2, picked(pairs, choices), choices, fix))
	other := opened(t, 64, own, received(t, 64, 2, picked(pairs, choices.Not()), choices, fix))
	for at := range right {
		if right[at] == other[at] {
			t.Errorf("with the other seed the number %d comes to the same", at)
		}
		fix[at]++
	}
	spoilt := opened(t, 64, own, received(t, 64, 2, picked(pairs, choices), choices, fix))
	for at := range right {
		want := right[at]
		if choices.Get(at / 2) {
			want++
		}
		if spoilt[at] != want {
			t.Errorf("with a correction that is 1 greater the number %d comes to %x, not to %x", at, spoilt[at], want)
		}
	}
}

// Transfers made in parts make what all make at once.
func TestParts(t *testing.T) {
	r := rand.New(rand.NewSource(6))
	const width, n, transfers = 21, 3, 20
	pairs, choices, xs := anyPairs(r, transfers), anyBits(r, transfers), anyNumbers(r, width, n*transfers)
	seeds := picked(pairs, choices)
	fix, own := sent(t, width, n, pairs, xs)
	got := received(t, width, n, seeds, choices, fix)
	for at := range transfers + 1 {
		firstFix, firstOwn := sent(t, width, n, pairs[:at], xs[:at*n])
		lastFix, lastOwn := sent(t, width, n, pairs[at:], xs[at*n:])
		if !slices.Equal(slices.Concat(firstFix, lastFix), fix) || !slices.Equal(slices.Concat(firstOwn, lastOwn), own) {
			t.Errorf("Send of two parts, cut at %d, makes others", at)
		}
		low, _ := choices.Part(0, at)
		high, _ := choices.Part(at, transfers)
		if !slices.Equal(slices.Concat(received(t, width, n, seeds[:at], low, fix[:at*n]), received(t, width, n, seeds[at:], high, fix[at*n:])), got) {
			t.Errorf("Receive of two parts, cut at %d, makes others", at)
		}
	}
}

// Rules that hold everywhere: whose memory is whose, and what an answer hangs on.

// withSpare tells the first of a list, with room behind them that holds what must stay.
func withSpare[T any](l []T, n int) []T { return slices.Clone(l)[:n] }

func TestWhatIsHandedInIsNotChanged(t *testing.T) {
	r := rand.New(rand.NewSource(7))
	pairs, choices := anyPairs(r, 12), anyBits(r, 10)
	xs, seeds := anyNumbers(r, 20, 33), anySeeds(r, 12)
	ownPairs, ownXs, ownSeeds, bools := withSpare(pairs, 10), withSpare(xs, 30), withSpare(seeds, 10), choices.Bools()
	for _, width := range []int{20, 19, 1, 0} { // with an error, too
		cot.Send(width, 3, ownPairs, ownXs)
		cot.Receive(width, 3, ownSeeds, choices, ownXs)
		cot.Open(width, ownXs, ownXs)
		cot.Open(width, ownXs[:20], ownXs[10:])
	}
	if !slices.Equal(ownPairs[:12], pairs) || !slices.Equal(ownXs[:33], xs) || !slices.Equal(ownSeeds[:12], seeds) || !slices.Equal(choices.Bools(), bools) {
		t.Error("what was handed in was changed")
	}
}

// spoil changes a list, and its spare room.
func spoil[T any](l []T, with T) {
	l = l[:cap(l)]
	for i := range l {
		l[i] = with
	}
}

func TestAnswersAreNewMemory(t *testing.T) {
	r := rand.New(rand.NewSource(8))
	pairs, choices, xs := anyPairs(r, 10), anyBits(r, 10), anyNumbers(r, 20, 30)
	seeds := picked(pairs, choices)
	fix, own := sent(t, 20, 3, pairs, xs)
	got := received(t, 20, 3, seeds, choices, fix)
	sum := opened(t, 20, own, got)
	wantXs, wantFix, wantOwn, wantGot, wantSum := slices.Clone(xs), slices.Clone(fix), slices.Clone(own), slices.Clone(got), slices.Clone(sum)
	isLeft := func(spoilt string, l, want []uint64) {
		t.Helper()
		if !slices.Equal(l, want) {
			t.Errorf("a list shares memory with %s", spoilt)
		}
	}
	spoil(sum, 5)
	isLeft("what was opened", got, wantGot)
	isLeft("what was opened", own, wantOwn)
	spoil(got, 6)
	isLeft("the share that was received", fix, wantFix)
	spoil(own, 7)
	isLeft("the share that was sent", fix, wantFix)
	isLeft("the share that was sent", xs, wantXs)
	spoil(fix, 8)
	isLeft("the corrections", xs, wantXs)
	fix, own = sent(t, 20, 3, pairs, xs)
	got = received(t, 20, 3, seeds, choices, wantFix)
	sum = opened(t, 20, wantOwn, wantGot)
	isLeft("an earlier answer", fix, wantFix)
	isLeft("an earlier answer", own, wantOwn)
	isLeft("an earlier answer", got, wantGot)
	isLeft("an earlier answer", sum, wantSum)
	spoil(xs, 9)
	clear(pairs)
	clear(seeds)
	isLeft("what was handed in", fix, wantFix)
	isLeft("what was handed in", own, wantOwn)
	isLeft("what was handed in", got, wantGot)
}
