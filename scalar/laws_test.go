package scalar_test

import (
	"math/rand"
	"slices"
	"testing"

	"trefoil/api"
	"trefoil/baseot"
	"trefoil/bits"
	"trefoil/cot"
	"trefoil/iknp"
	"trefoil/rot"
	"trefoil/scalar"
)

// P22.5

// transfer tells what who sends has, and who chooses, of what is spread, by choices.
type transfer func(width int, xs []uint64, choices bits.Vec) (sent, got []uint64)

// splitting draws shares of what was spread, where the choice is 1, and of 0 else.
func splitting(r *rand.Rand) transfer {
	return func(width int, xs []uint64, choices bits.Vec) (sent, got []uint64) {
		sent, got = anyNumbers(r, width, len(xs)), make([]uint64, len(xs))
		for at, x := range xs {
			if choices.Get(at) {
				got[at] = x
			}
			got[at] = (got[at] - sent[at]) & greatest(width)
		}
		return sent, got
	}
}

// areMade holds that two parties' shares are Right when both are finished, and that A and B stay.
func areMade(t *testing.T, width int, a, b []api.Share, there, back transfer) {
	t.Helper()
	c := class(width)
	sentA, gotB := there(width, spread(t, c, a), chosen(t, c, b))
	sentB, gotA := back(width, spread(t, c, b), chosen(t, c, a))
	x, y := finished(t, c, a, sentA, gotA), finished(t, c, b, sentB, gotB)
	for i := range x {
		if !isSame(x[i], triple(a[i].A[0], a[i].B[0], x[i].C[0])) || !isSame(y[i], triple(b[i].A[0], b[i].B[0], y[i].C[0])) {
			t.Fatalf("%x and %x, of %d bits, become %x and %x", a[i], b[i], width, x[i], y[i])
		}
		if !scalar.Right(c, x[i], y[i]) || !isTriple(width, x[i], y[i]) {
			t.Fatalf("%x and %x, of %d bits, aren't Right", x[i], y[i], width)
		}
	}
}

func TestFinishedSharesAreRight(t *testing.T) {
	r := rand.New(rand.NewSource(1))
	split := splitting(r)
	for width := 1; width <= 64; width++ {
		for n := 1; n <= api.MaxBatch; n++ {
			areMade(t, width, anyShares(r, width, n), anyShares(r, width, n), split, split)
		}
	}
}

// All pairs of small shares.
func TestAllSmallSharesAreMadeRight(t *testing.T) {
	split := splitting(rand.New(rand.NewSource(2)))
	for width := 1; width <= 3; width++ {
		mask := greatest(width)
		for i := range uint64(1) << (4 * width) {
			at := func(part int) uint64 { return i >> (part * width) & mask }
			areMade(t, width, pairs([]uint64{at(0), at(1)}), pairs([]uint64{at(2), at(3)}), split, split)
		}
	}
}

// through makes shares by the transfers of a direction, from one number on.
func through(t *testing.T, send baseot.Sender, recv baseot.Receiver, from uint64) transfer {
	return func(width int, xs []uint64, choices bits.Vec) (sent, got []uint64) {
		t.Helper()
		cols, own, received := iknp.Receive(recv, from, choices)
		rows, extended := iknp.Send(send, from, cols)
		fix, sent, corrected := cot.Send(width, 1, rot.Send(send.Delta, from, rows), xs)
		got, opened := cot.Receive(width, 1, rot.Receive(from, own), choices, fix)
		if codes := []api.Errno{received, extended, corrected, opened}; !slices.Equal(codes, make([]api.Errno, len(codes))) {
			t.Fatal(codes)
		}
		return sent, got
	}
}

// From tapes to triples, by the layers below.
func TestTransfersMakeTriples(t *testing.T) {
	r := rand.New(rand.NewSource(3))
	p, q := baseot.Deal(api.Seed{1, 2, 3}, 4)
	for _, width := range []int{1, 2, 12, 33, 63, 64} {
		for _, n := range []int{1, 3, api.MaxBatch} {
			a := drawn(t, class(width), n, newTape(t, anyWords(r, 2*n)))
			b := drawn(t, class(width), n, newTape(t, anyWords(r, 2*n)))
			areMade(t, width, a, b, through(t, p.Send, q.Recv, uint64(100*width+n)), through(t, q.Send, p.Recv, uint64(7*width)))
		}
	}
}

// Rules that hold everywhere: whose memory is whose.

// roomy tells shares whose parts, and whose list, have spare room, and the memory that all of it lies in.
func roomy(r *rand.Rand, n int) (l []api.Share, numbers []uint64) {
	numbers = anyNumbers(r, 20, 6*n)
	l = make([]api.Share, n, n+3)
	for i := range l {
		part := func(j int) []uint64 { return numbers[6*i+2*j : 6*i+2*j+1] } // room up to the end of numbers
		l[i] = api.Share{A: part(0), B: part(1), C: part(2)}
	}
	return l, numbers
}

func TestWhatIsHandedInIsNotChanged(t *testing.T) {
	r := rand.New(rand.NewSource(4))
	l, numbers := roomy(r, 5)
	before, all := copied(l), slices.Clone(numbers)
	lists := anyNumbers(r, 20, 300)
	listsBefore := slices.Clone(lists)
	for _, width := range []int{20, 19, 1, 0} { // with an error, too
		c := class(width)
		for _, n := range []int{0, 1, 4, 5} {
			scalar.Choices(c, l[:n])
			scalar.Spread(c, l[:n])
			scalar.Finish(c, l[:n], lists[:n*width], lists[150:150+n*width])
			if n > 0 {
				scalar.Right(c, l[0], l[n-1])
			}
		}
	}
	if !slices.Equal(numbers, all) || !slices.Equal(lists, listsBefore) || !slices.EqualFunc(l, before, isSame) {
		t.Error("what was handed in was changed")
	}
	for _, s := range l[:cap(l)][len(l):] {
		if !isSame(s, api.Share{}) {
			t.Error("the spare room was changed")
		}
	}
}

// spoil changes a list, and its spare room, to others each time.
func spoil(l []uint64) {
	l = l[:cap(l)]
	for i := range l {
		l[i]++
	}
}

// areAlone holds that shares lie in memory of their own: no part changes when another one is spoilt.
func areAlone(t *testing.T, l []api.Share) {
	t.Helper()
	parts := make([][]uint64, 0, 3*len(l))
	for _, s := range l {
		parts = append(parts, s.A, s.B, s.C)
	}
	for i, part := range parts {
		own := slices.Clone(part)
		for j, other := range parts {
			if i != j {
				spoil(other)
			}
		}
		if !slices.Equal(part, own) {
			t.Errorf("the part %d shares memory with another one", i)
		}
	}
}

func TestAnswersAreNewMemory(t *testing.T) {
	r := rand.New(rand.NewSource(5))
	words := anyWords(r, 12)
	from := newTape(t, words)
	areAlone(t, drawn(t, class(40), 3, from)) // spoils what was drawn
	isDrawn(t, 40, words[6:], drawn(t, class(40), 3, from))
	for _, width := range []int{1, 20} { // of one bit Spread tells what it was handed
		c, l := class(width), anyShares(r, width, 3)
		sent, got := anyNumbers(r, width, 3*width), anyNumbers(r, width, 3*width)
		before, xs, first := copied(l), spread(t, c, l), finished(t, c, l, sent, got)
		choices, ownXs, own := chosen(t, c, l), slices.Clone(xs), copied(first)
		spoil(spread(t, c, l))
		areAlone(t, finished(t, c, l, sent, got))
		spoil(chosen(t, c, l).Raw())
		if !slices.EqualFunc(l, before, isSame) {
			t.Error("an answer is what was handed in")
		}
		digits := text(choices)
		for _, s := range l {
			spoil(s.A)
			spoil(s.B)
		}
		spoil(sent)
		spoil(got)
		if !slices.Equal(xs, ownXs) || !slices.EqualFunc(first, own, isSame) || text(choices) != digits {
			t.Error("an answer shares memory with what was handed in, or with another answer")
		}
	}
}
