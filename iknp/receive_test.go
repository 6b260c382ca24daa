package iknp_test

import (
	"math/rand"
	"slices"
	"testing"

	"trefoil/api"
	"trefoil/baseot"
	"trefoil/bits"
	"trefoil/iknp"
)

// P17.1

// isReceived holds what Receive makes against the chapter's words, bit by bit.
func isReceived(t *testing.T, r baseot.Receiver, from uint64, choices bits.Vec) {
	t.Helper()
	n := choices.Len()
	cols, rows := received(t, r, from, choices)
	if len(cols) != 128 || len(rows) != n {
		t.Fatalf("of %d from %d on there are %d columns, and %d rows", n, from, len(cols), len(rows))
	}
	for i, col := range cols {
		if col.Len() != n {
			t.Fatalf("of %d from %d on column %d has %d bits", n, from, i, col.Len())
		}
		zero, one := drawn(t, r.Zero[i], from, n), drawn(t, r.One[i], from, n)
		for j := range n {
			if col.Get(j) != (zero[j] != one[j] != choices.Get(j)) {
				t.Fatalf("of %d from %d on bit %d of column %d is %t", n, from, j, i, col.Get(j))
			}
			if rowBit(rows[j], i) != zero[j] {
				t.Fatalf("of %d from %d on bit %d of row %d isn't %t", n, from, i, j, zero[j])
			}
		}
	}
}

func TestReceiveBitByBit(t *testing.T) {
	r := rand.New(rand.NewSource(1))
	for _, c := range spans {
		isReceived(t, anyReceiver(r), c.from, anyBits(r, c.n))
	}
}

func TestReceiveOfChoicesThatAreAlike(t *testing.T) {
	r := rand.New(rand.NewSource(2))
	for _, n := range []int{1, 2, 63, 64, 65, 200} {
		isReceived(t, anyReceiver(r), 77, blank(n))
		isReceived(t, anyReceiver(r), 77, blank(n).Not())
	}
}

// Where both seeds are alike, nothing but the choices is left in a column.
func TestReceiveOfSeedsThatAreAlike(t *testing.T) {
	r := rand.New(rand.NewSource(3))
	seeds, choices := anySeeds(r, 128), anyBits(r, 150)
	cols, _ := received(t, baseot.Receiver{Zero: seeds, One: seeds}, 13, choices)
	for i, col := range cols {
		if !bits.Equal(col, choices) {
			t.Errorf("column %d isn't the choices", i)
		}
	}
	isReceived(t, baseot.Receiver{Zero: make([]api.Seed, 128), One: make([]api.Seed, 128)}, 13, choices) // seeds of zeros are seeds
}

func TestReceiveOfTooFewOrManyChoices(t *testing.T) {
	v := anyReceiver(rand.New(rand.NewSource(4)))
	for _, n := range tooMany {
		notReceived(t, "right seeds", v, 0, blank(n), api.ErrLimit)
		notReceived(t, "right seeds", v, 5, blank(n).Not(), api.ErrLimit)
		for _, from := range tooFar(n) { // ahead of ErrCount
			notReceived(t, "right seeds", v, from, blank(n), api.ErrLimit)
		}
		notReceived(t, "no seeds", baseot.Receiver{}, 0, blank(n), api.ErrLimit) // ahead of ErrShape
		notReceived(t, "no seeds", baseot.Receiver{}, top, blank(n), api.ErrLimit)
	}
	notReceived(t, "what no call made", v, 0, bits.Vec{}, api.ErrLimit)
	for _, n := range []int{1, 2, 4095, 4096} {
		if _, _, code := iknp.Receive(v, 0, blank(n)); code != api.OK {
			t.Errorf("Receive of %d: %d", n, code)
		}
	}
}

func TestReceiveOfTooGreatNumbers(t *testing.T) {
	v := anyReceiver(rand.New(rand.NewSource(5)))
	for _, n := range []int{1, 2, 64, 300, 4095, 4096} {
		for _, from := range tooFar(n) {
			notReceived(t, "right seeds", v, from, blank(n), api.ErrCount)
			notReceived(t, "no seeds", baseot.Receiver{}, from, blank(n), api.ErrCount) // ahead of ErrShape
			notReceived(t, "127 Zero", baseot.Receiver{Zero: v.Zero[1:], One: v.One}, from, blank(n), api.ErrCount)
		}
		if _, _, code := iknp.Receive(v, end-uint64(n), blank(n)); code != api.OK {
			t.Errorf("Receive of %d up to the last one: %d", n, code)
		}
	}
}

func TestReceiveOfAnotherNumberOfSeeds(t *testing.T) {
	v := anyReceiver(rand.New(rand.NewSource(6)))
	sizes := []int{0, 1, 64, 127, 128, 129, 192, 256}
	for _, zero := range sizes {
		for _, one := range sizes {
			if zero == 128 && one == 128 {
				continue
			}
			w := baseot.Receiver{Zero: sized(v.Zero, zero), One: sized(v.One, one)}
			for _, c := range spans[:5] {
				notReceived(t, "other seeds", w, c.from, blank(c.n), api.ErrShape)
			}
			notReceived(t, "other seeds", w, end-most, blank(most), api.ErrShape)
		}
	}
	notReceived(t, "what no call made", baseot.Receiver{}, 0, blank(1), api.ErrShape)
}

// Of any part of the transfers there are the same bits, however they are asked for.
func TestPartsOfReceive(t *testing.T) {
	r := rand.New(rand.NewSource(7))
	v, choices := anyReceiver(r), anyBits(r, 700)
	cols, rows := received(t, v, 1000, choices)
	for _, c := range []struct{ from, to int }{{0, 1}, {0, 700}, {100, 200}, {511, 513}, {24, 536}, {699, 700}} {
		some, _ := choices.Part(c.from, c.to)
		part, few := received(t, v, 1000+uint64(c.from), some)
		if !slices.Equal(few, rows[c.from:c.to]) {
			t.Errorf("the rows from %d to %d are others", c.from, c.to)
		}
		for i, col := range cols {
			if same, _ := col.Part(c.from, c.to); !bits.Equal(part[i], same) {
				t.Errorf("column %d from %d to %d is another", i, c.from, c.to)
			}
		}
	}
}
