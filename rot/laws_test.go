package rot_test

import (
	"math/rand"
	"slices"
	"testing"

	"trefoil/api"
	"trefoil/baseot"
	"trefoil/bits"
	"trefoil/iknp"
	"trefoil/rot"
)

// P18.5

// joined makes rows that are joined to others, by delta and choices.
func joined(delta api.Row, rows []api.Row, choices bits.Vec) []api.Row {
	l := slices.Clone(rows)
	for j := range l {
		if choices.Get(j) {
			l[j][0] ^= delta[0]
			l[j][1] ^= delta[1]
		}
	}
	return l
}

func TestSeedsOfJoinedRowsAreChosen(t *testing.T) {
	r := rand.New(rand.NewSource(1))
	for _, n := range []int{0, 1, 2, 63, 64, 65, 512, 4096} {
		for _, delta := range []api.Row{{}, {1, 0}, {0, 1 << 63}, {top, top}, anyRow(r)} {
			for _, choices := range []bits.Vec{anyBits(r, n), blank(n), blank(n).Not()} {
				own, from := anyRows(r, n), r.Uint64()>>(1+r.Intn(63))
				sent := joined(delta, own, choices)
				if !iknp.Joined(delta, sent, own, choices) {
					t.Fatal("the rows aren't joined")
				}
				if !rot.Chosen(rot.Send(delta, from, sent), rot.Receive(from, own), choices) {
					t.Errorf("%d seeds from %d on, by the Delta %x, aren't chosen", n, from, delta)
				}
			}
		}
	}
}

func TestSeedsOfExtendedRowsAreChosen(t *testing.T) {
	r := rand.New(rand.NewSource(2))
	for _, c := range []struct {
		from uint64
		n    int
	}{{0, 1}, {7, 4}, {511, 2}, {0, 4096}, {1<<26 - 1, 1}, {1<<26 - 4096, 4096}, {1000, 300}} {
		first, second := baseot.Deal(anySeed(r), r.Uint64())
		for _, way := range []struct {
			s baseot.Sender
			v baseot.Receiver
		}{{first.Send, second.Recv}, {second.Send, first.Recv}} {
			choices := anyBits(r, c.n)
			cols, own, code := iknp.Receive(way.v, c.from, choices)
			if code != api.OK {
				t.Fatal(code)
			}
			rows, code := iknp.Send(way.s, c.from, cols)
			if code != api.OK {
				t.Fatal(code)
			}
			pairs := rot.Send(way.s.Delta, c.from, rows)
			if !rot.Chosen(pairs, rot.Receive(c.from, own), choices) {
				t.Errorf("%d from %d on aren't chosen", c.n, c.from)
			}
			if rot.Chosen(pairs, rot.Receive(c.from, own), choices.Not()) || rot.Chosen(pairs, rot.Receive(c.from+1, own), choices) {
				t.Errorf("%d from %d on are chosen by the other choices, or by other numbers", c.n, c.from)
			}
		}
	}
}

// Rows hashed in parts, each from its own number on, make the same seeds.
func TestSeedsOfParts(t *testing.T) {
	r := rand.New(rand.NewSource(3))
	delta, rows := anyRow(r), anyRows(r, 100)
	pairs, seeds := rot.Send(delta, 50, rows), rot.Receive(50, rows)
	for _, at := range []int{0, 1, 37, 99, 100} {
		from := 50 + uint64(at)
		if !slices.Equal(slices.Concat(rot.Send(delta, 50, rows[:at]), rot.Send(delta, from, rows[at:])), pairs) {
			t.Errorf("Send of two parts, cut at %d, makes others", at)
		}
		if !slices.Equal(slices.Concat(rot.Receive(50, rows[:at]), rot.Receive(from, rows[at:])), seeds) {
			t.Errorf("Receive of two parts, cut at %d, makes others", at)
		}
	}
}

// Rules that hold everywhere: whose memory is whose, and what an answer hangs on.

// withSpare tells a copy with room behind it that holds what must stay.
func withSpare[T any](l []T, spare ...T) []T {
	return slices.Concat(l, spare)[:len(l)]
}

func TestWhatIsHandedInIsNotChanged(t *testing.T) {
	r := rand.New(rand.NewSource(4))
	rows, pairs, seeds, choices := anyRows(r, 102), anyPairs(r, 102), anySeeds(r, 102), anyBits(r, 100)
	copy(seeds, picked(pairs[:100], choices))
	ownRows, ownPairs, ownSeeds := withSpare(rows[:100], rows[100:]...), withSpare(pairs[:100], pairs[100:]...), withSpare(seeds[:100], seeds[100:]...)
	bools := choices.Bools()
	rot.Send(api.Row{5, 9}, 3, ownRows)
	rot.Receive(3, ownRows)
	rot.Chosen(ownPairs, ownSeeds, choices)
	rot.Coins(ownSeeds)
	if !slices.Equal(ownRows[:102], rows) {
		t.Error("the rows were changed")
	}
	if !slices.Equal(ownPairs[:102], pairs) || !slices.Equal(ownSeeds[:102], seeds) || !slices.Equal(choices.Bools(), bools) {
		t.Error("what was chosen was changed")
	}
}

// spoil changes a list, and its spare room.
func spoil[T any](l []T, with T) {
	_ = append(l, with)
	l = l[:cap(l)]
	for i := range l {
		l[i] = with
	}
}

func TestAnswersAreNewMemory(t *testing.T) {
	r := rand.New(rand.NewSource(5))
	delta, rows, seed := anyRow(r), anyRows(r, 100), anySeed(r)
	pairs, seeds := rot.Send(delta, 3, rows), rot.Receive(3, rows)
	numbers, _ := rot.Numbers(seed, 64, 36)
	coins, _ := rot.Coins(seeds)
	wantPairs, wantSeeds, wantNumbers, wantCoins := slices.Clone(pairs), slices.Clone(seeds), slices.Clone(numbers), coins.Bools()
	otherPairs, otherSeeds := rot.Send(delta, 3, rows), rot.Receive(3, rows)
	otherNumbers, _ := rot.Numbers(seed, 64, 36)
	spoil(otherPairs, rot.Pair{})
	spoil(otherSeeds, api.Seed{})
	spoil(otherNumbers, 1)
	clear(rows)
	if !slices.Equal(pairs, wantPairs) || !slices.Equal(seeds, wantSeeds) || !slices.Equal(numbers, wantNumbers) {
		t.Error("answers share memory")
	}
	clear(seeds)
	if !slices.Equal(coins.Bools(), wantCoins) {
		t.Error("coins hang on what became of the seeds")
	}
	again, _ := rot.Numbers(seed, 64, 36)
	if !slices.Equal(again, wantNumbers) {
		t.Error("numbers hang on what became of others")
	}
}

// With an error nothing is kept: the next answer is as it would have been.
func TestErrorsLeaveNothingBehind(t *testing.T) {
	want, _ := rot.Numbers(rising(), 12, 5)
	rot.Numbers(rising(), 0, 5)
	rot.Numbers(rising(), 12, 37)
	rot.Numbers(full(), 65, -1)
	if got, code := rot.Numbers(rising(), 12, 5); code != api.OK || !slices.Equal(got, want) {
		t.Errorf("behind errors the numbers are %x, with %d", got, code)
	}
}
