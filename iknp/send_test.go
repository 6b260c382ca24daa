package iknp_test

import (
	"math/rand"
	"slices"
	"testing"

	"trefoil/api"
	"trefoil/baseot"
	"trefoil/bits"
	"trefoil/iknp"
)

// P17.2

// isSent holds what Send makes against the chapter's words, bit by bit.
func isSent(t *testing.T, s baseot.Sender, from uint64, cols []bits.Vec) {
	t.Helper()
	n := cols[0].Len()
	rows := sent(t, s, from, cols)
	if len(rows) != n {
		t.Fatalf("of %d from %d on there are %d rows", n, from, len(rows))
	}
	for i, key := range s.Keys {
		own := drawn(t, key, from, n)
		for j, row := range rows {
			want := own[j]
			if rowBit(s.Delta, i) {
				want = want != cols[i].Get(j)
			}
			if rowBit(row, i) != want {
				t.Fatalf("of %d from %d on bit %d of row %d isn't %t", n, from, i, j, want)
			}
		}
	}
}

func TestSendBitByBit(t *testing.T) {
	r := rand.New(rand.NewSource(1))
	for _, c := range spans {
		isSent(t, anySender(r), c.from, anyCols(r, 128, c.n))
	}
}

func TestSendByDelta(t *testing.T) {
	r := rand.New(rand.NewSource(2))
	s, cols := anySender(r), anyCols(r, 128, 70)
	for _, delta := range []api.Row{{}, {top, top}, {top, 0}, {0, top}, {1, 0}, {0, 1}, {1 << 63, 0}, {0, 1 << 63}} {
		s.Delta = delta
		isSent(t, s, 9, cols)
	}
	for i := range 128 { // one column counts, or all but one
		s.Delta = api.Row{}
		s.Delta[i/64] = 1 << (i % 64)
		isSent(t, s, 9, cols)
		s.Delta = api.Row{^s.Delta[0], ^s.Delta[1]}
		isSent(t, s, 9, cols)
	}
	isSent(t, baseot.Sender{Delta: s.Delta, Keys: make([]api.Seed, 128)}, 9, cols) // seeds of zeros are seeds
}

// Where Delta has no bit, it is all the same what came.
func TestSendOfColumnsThatDontCount(t *testing.T) {
	r := rand.New(rand.NewSource(3))
	s := anySender(r)
	one := anyCols(r, 128, 100)
	other := slices.Clone(one)
	for i := range other {
		if !rowBit(s.Delta, i) {
			other[i] = anyBits(r, 100)
		}
	}
	if !slices.Equal(sent(t, s, 4, one), sent(t, s, 4, other)) {
		t.Error("the rows hang on columns that Delta leaves out")
	}
}

func TestSendOfAnotherNumberOfColumns(t *testing.T) {
	r := rand.New(rand.NewSource(4))
	s := anySender(r)
	notSent(t, "nil", s, 0, nil, api.ErrShape)
	notSent(t, "nothing", baseot.Sender{}, top, nil, api.ErrShape)
	for _, n := range []int{0, 1, 64, 200, 4096, 4097} { // ahead of ErrLimit
		cols := anyCols(r, 257, n)
		for _, count := range []int{0, 1, 2, 63, 64, 127, 129, 192, 256, 257} {
			for _, from := range []uint64{0, end - 1, end, top} { // ahead of ErrCount
				notSent(t, "right Keys", s, from, cols[:count], api.ErrShape)
				notSent(t, "no Keys", baseot.Sender{}, from, cols[:count], api.ErrShape)
			}
		}
	}
}

func TestSendOfTooFewOrManyTransfers(t *testing.T) {
	s := anySender(rand.New(rand.NewSource(5)))
	for _, n := range tooMany {
		cols := slices.Repeat([]bits.Vec{blank(n)}, 128)
		notSent(t, "right Keys", s, 0, cols, api.ErrLimit)
		for _, from := range tooFar(n) { // ahead of ErrCount
			notSent(t, "right Keys", s, from, cols, api.ErrLimit)
		}
		notSent(t, "no Keys", baseot.Sender{}, 0, cols, api.ErrLimit) // ahead of ErrShape
		cols = slices.Repeat([]bits.Vec{blank(5)}, 128)
		cols[0] = blank(n) // the first one is asked
		notSent(t, "uneven columns", s, 0, cols, api.ErrLimit)
	}
	notSent(t, "what no call made", s, 0, make([]bits.Vec, 128), api.ErrLimit)
	for _, n := range []int{1, 2, 4095, 4096} {
		if _, code := iknp.Send(s, 0, slices.Repeat([]bits.Vec{blank(n)}, 128)); code != api.OK {
			t.Errorf("Send of %d: %d", n, code)
		}
	}
}

func TestSendOfTooGreatNumbers(t *testing.T) {
	s := anySender(rand.New(rand.NewSource(6)))
	for _, n := range []int{1, 2, 64, 300, 4095, 4096} {
		cols := slices.Repeat([]bits.Vec{blank(n)}, 128)
		uneven := slices.Clone(cols)
		uneven[127] = blank(n + 1)
		for _, from := range tooFar(n) {
			notSent(t, "right Keys", s, from, cols, api.ErrCount)
			notSent(t, "no Keys", baseot.Sender{}, from, cols, api.ErrCount) // ahead of ErrShape
			notSent(t, "uneven columns", s, from, uneven, api.ErrCount)
		}
		if _, code := iknp.Send(s, end-uint64(n), cols); code != api.OK {
			t.Errorf("Send of %d up to the last one: %d", n, code)
		}
	}
}

func TestSendOfAnotherNumberOfKeys(t *testing.T) {
	r := rand.New(rand.NewSource(7))
	s, cols := anySender(r), anyCols(r, 128, 70)
	for _, n := range []int{0, 1, 64, 127, 129, 192, 256} {
		for _, delta := range []api.Row{{}, s.Delta, {top, top}} {
			notSent(t, "other Keys", baseot.Sender{Delta: delta, Keys: sized(s.Keys, n)}, 3, cols, api.ErrShape)
		}
	}
	notSent(t, "what no call made", baseot.Sender{}, 0, cols, api.ErrShape)
}

// A column is of the wrong length, whether Delta lets it count or not.
func TestSendOfUnevenColumns(t *testing.T) {
	r := rand.New(rand.NewSource(8))
	s := anySender(r)
	for _, c := range []struct{ n, other int }{{1, 0}, {1, 2}, {5, 8}, {8, 5}, {64, 63}, {64, 65}, {200, 0}, {200, 4097}, {4096, 4095}, {9, 1 << 22}} {
		cols := anyCols(r, 128, c.n)
		for i := 1; i < 128; i++ {
			uneven := slices.Clone(cols)
			uneven[i] = blank(c.other)
			for _, delta := range []api.Row{{}, s.Delta, {top, top}} {
				notSent(t, "an uneven column", baseot.Sender{Delta: delta, Keys: s.Keys}, 3, uneven, api.ErrShape)
			}
		}
	}
	cols := anyCols(r, 128, 70)
	cols[0] = blank(71) // then all others have another length
	notSent(t, "another first column", s, 3, cols, api.ErrShape)
}
