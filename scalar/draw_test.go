package scalar_test

import (
	"errors"
	"math/rand"
	"testing"

	"trefoil/api"
	"trefoil/fault"
	"trefoil/scalar"
	"trefoil/tape"
)

// P22.1

func anyWords(r *rand.Rand, n int) []uint64 { return anyNumbers(r, 64, n) }

// isDrawn holds shares against the words of a tape that they were drawn of.
func isDrawn(t *testing.T, width int, words []uint64, l []api.Share) {
	t.Helper()
	for i, s := range l {
		want := api.Share{A: []uint64{words[2*i] & greatest(width)}, B: []uint64{words[2*i+1] & greatest(width)}}
		if !isSame(s, want) {
			t.Fatalf("the share %d of %x, of %d bits, is %x", i, words[2*i:2*i+2], width, s)
		}
	}
}

func TestDrawOfAllWidthsAndCounts(t *testing.T) {
	r := rand.New(rand.NewSource(1))
	for width := 1; width <= 64; width++ {
		for n := 1; n <= api.MaxBatch; n++ {
			words := anyWords(r, 2*n+3)
			from := newTape(t, words)
			isDrawn(t, width, words, drawn(t, class(width), n, from))
			if from.At() != 2*n {
				t.Fatalf("for %d shares %d words are read", n, from.At())
			}
		}
	}
}

// Draw goes on where the tape is, up to its end.
func TestDrawOneBehindTheOther(t *testing.T) {
	r := rand.New(rand.NewSource(2))
	words := anyWords(r, 2*(3+1+api.MaxBatch)+1)
	from := newTape(t, words)
	if _, err := from.Next(); err != nil {
		t.Fatal(err)
	}
	for _, n := range []int{3, 1, api.MaxBatch} {
		at := from.At()
		isDrawn(t, 40, words[at:], drawn(t, class(40), n, from))
		if from.At() != at+2*n {
			t.Errorf("for %d shares %d words are read", n, from.At()-at)
		}
	}
	if from.Left() != 0 {
		t.Errorf("%d words are left", from.Left())
	}
}

// notDrawn holds that nothing is drawn, nor read.
func notDrawn(t *testing.T, c api.Class, n int, from *tape.Tape, want api.Errno) {
	t.Helper()
	at, left := from.At(), from.Left()
	l, err := scalar.Draw(c, n, from)
	if fault.Code(err) != want || !errors.Is(err, want) || len(l) != 0 {
		t.Errorf("of %d of %v Draw tells %d, with %v, not %d", n, c, len(l), err, want)
	}
	if from.At() != at || from.Left() != left {
		t.Errorf("of %d of %v Draw reads, and tells %v", n, c, err)
	}
}

func TestDrawOfShortTapes(t *testing.T) {
	for n := 1; n <= api.MaxBatch; n++ {
		for have := range 2 * n {
			for _, width := range []int{1, 8, 64} {
				notDrawn(t, class(width), n, newTape(t, make([]uint64, have)), api.ErrTape)
			}
		}
	}
	from := newTape(t, make([]uint64, 9))
	drawn(t, class(5), 3, from)
	notDrawn(t, class(5), 2, from, api.ErrTape) // what was read doesn't count
	drawn(t, class(5), 1, from)
	notDrawn(t, class(5), 1, from, api.ErrTape) // half a pair is left
}

func TestDrawOfNoTape(t *testing.T) {
	for _, none := range []*tape.Tape{nil, {}} {
		for _, n := range []int{1, 2, api.MaxBatch} {
			notDrawn(t, class(8), n, none, api.ErrNil)
		}
	}
}

func TestDrawOfTooFewOrTooMany(t *testing.T) {
	for _, n := range wrongCounts() {
		for _, width := range []int{1, 8, 64} {
			notDrawn(t, class(width), n, newTape(t, make([]uint64, 200)), api.ErrLimit)
		}
	}
}

func TestDrawOfWrongClasses(t *testing.T) {
	for _, w := range wrongClasses() {
		notDrawn(t, w.class, 1, newTape(t, make([]uint64, 200)), w.code)
		notDrawn(t, w.class, api.MaxBatch, newTape(t, make([]uint64, 200)), w.code)
	}
}

// The class is told first, then how many, then what the tape says.
func TestDrawTellsTheFirstError(t *testing.T) {
	for _, from := range []*tape.Tape{nil, {}, newTape(t, nil), newTape(t, make([]uint64, 200))} {
		for _, n := range wrongCounts() {
			for _, w := range wrongClasses() {
				notDrawn(t, w.class, n, from, w.code)
			}
			notDrawn(t, class(8), n, from, api.ErrLimit)
		}
		for _, w := range wrongClasses() {
			notDrawn(t, w.class, 3, from, w.code)
		}
	}
}
