package scalar_test

import (
	"math"
	"slices"
	"testing"

	"trefoil/api"
	"trefoil/scalar"
)

// P22.1 to P22.3: classes, and lists of shares, that are wrong.

type wrongClass struct {
	class api.Class
	code  api.Errno
}

func wrongWidths() []int {
	return []int{0, 65, 66, 127, 128, 256 + 8, 1<<16 + 1, 1<<32 + 8, 1 << 62, math.MaxInt64, -1, -8, -64, -1 << 32, math.MinInt64, math.MinInt64 + 8}
}

// wrongCounts tells how many shares there may not be. Two times some of them is cut to a small number.
func wrongCounts() []int {
	return []int{0, 25, 26, 48, 100, 256 + 1, 1<<32 + 1, 1 << 62, 1<<62 + 1, math.MaxInt64, -1, -2, -24, -1 << 32, -1 << 62, 1 - 1<<63, math.MinInt64}
}

// wrongClasses tells classes that may not be, and those that may be, but of another kind.
func wrongClasses() []wrongClass {
	l := []wrongClass{
		{api.Class{}, api.ErrKind},
		{api.Class{Bits: 8}, api.ErrKind},
		{api.Class{Kind: 5, Bits: 8}, api.ErrKind},
		{api.Class{Kind: -1, Bits: 8}, api.ErrKind},
		{api.Class{Kind: 256 + api.Scalar, Bits: 8}, api.ErrKind},
		{api.Class{Kind: math.MinInt64, Bits: 8}, api.ErrKind},
		{api.Class{Kind: api.Bit, Bits: 1}, api.ErrKind},
		{api.Class{Kind: api.DaBit, Bits: 1}, api.ErrKind},
		{api.Class{Kind: api.DaBit, Bits: 8}, api.ErrKind},
		{api.Class{Kind: api.Matrix, Bits: 8, M: 1, K: 1, N: 1}, api.ErrKind},
		{api.Class{Kind: api.Matrix, Bits: 8, M: 6, K: 6, N: 6}, api.ErrKind},
		{api.Class{Kind: api.Bit, Bits: 8}, api.ErrShape}, // what may not be is told ahead of the kind
		{api.Class{Kind: api.DaBit}, api.ErrShape},
		{api.Class{Kind: api.Matrix, Bits: 8}, api.ErrShape},
		{api.Class{Kind: api.Matrix, Bits: 8, M: 7, K: 1, N: 1}, api.ErrShape},
	}
	for _, width := range wrongWidths() {
		l = append(l, wrongClass{class(width), api.ErrShape})
	}
	for _, side := range []int{1, -1, 6, math.MaxInt64} {
		l = append(l,
			wrongClass{api.Class{Kind: api.Scalar, Bits: 8, M: side}, api.ErrShape},
			wrongClass{api.Class{Kind: api.Scalar, Bits: 8, K: side}, api.ErrShape},
			wrongClass{api.Class{Kind: api.Scalar, Bits: 8, N: side}, api.ErrShape},
		)
	}
	return l
}

func notChosen(t *testing.T, c api.Class, l []api.Share, want api.Errno) {
	t.Helper()
	if v, code := scalar.Choices(c, l); code != want || v.Len() != 0 || len(v.Raw()) != 0 {
		t.Errorf("of %d of %v Choices tells %d bits, with %d, not %d", len(l), c, v.Len(), code, want)
	}
}

func notSpread(t *testing.T, c api.Class, l []api.Share, want api.Errno) {
	t.Helper()
	if xs, code := scalar.Spread(c, l); code != want || len(xs) != 0 {
		t.Errorf("of %d of %v Spread tells %d, with %d, not %d", len(l), c, len(xs), code, want)
	}
}

func notFinished(t *testing.T, c api.Class, l []api.Share, sent, got []uint64, want api.Errno) {
	t.Helper()
	if out, code := scalar.Finish(c, l, sent, got); code != want || len(out) != 0 {
		t.Errorf("of %d of %v, of %d that were sent and %d that were got, Finish tells %d, with %d, not %d", len(l), c, len(sent), len(got), len(out), code, want)
	}
}

// noneTakes holds that of such shares there is nothing, whatever was sent and got.
func noneTakes(t *testing.T, c api.Class, l []api.Share, want api.Errno) {
	t.Helper()
	notChosen(t, c, l, want)
	notSpread(t, c, l, want)
	whole := make([]uint64, 8*len(l))
	for _, shares := range [][]uint64{nil, whole, {1, 2, 3}, {top}} {
		notFinished(t, c, l, shares, shares, want)
		notFinished(t, c, l, whole, shares, want)
		notFinished(t, c, l, shares, whole, want)
	}
}

func zeros(n int) []api.Share { return pairs(make([]uint64, 2*n)) }

func TestWrongClasses(t *testing.T) {
	for _, w := range wrongClasses() {
		for _, n := range []int{1, 2, api.MaxBatch} {
			noneTakes(t, w.class, zeros(n), w.code)
		}
	}
}

func TestTooFewOrTooMany(t *testing.T) {
	for _, width := range []int{1, 8, 64} {
		noneTakes(t, class(width), nil, api.ErrLimit)
		for _, n := range []int{0, 25, 26, 48, 100, 1000} {
			noneTakes(t, class(width), zeros(n), api.ErrLimit)
		}
	}
}

// wrongParts tells what isn't one number of at most so many bits.
func wrongParts(width int) [][]uint64 {
	l := [][]uint64{nil, {}, {0, 0}, {1, 1}, {0, top}, make([]uint64, 100)}
	if width < 64 {
		l = append(l, []uint64{1 << width}, []uint64{greatest(width) + 2}, []uint64{1 << 63}, []uint64{top})
	}
	return l
}

// One part that is wrong is enough, in whichever place.
func TestWrongParts(t *testing.T) {
	for width := 1; width <= 64; width++ {
		for _, n := range []int{1, 2, 5} {
			for at := range n {
				for _, part := range wrongParts(width) {
					l := zeros(n)
					l[at].A = part
					noneTakes(t, class(width), l, api.ErrShape)
					l[at].A, l[at].B = []uint64{0}, part
					noneTakes(t, class(width), l, api.ErrShape)
				}
			}
		}
	}
	noneTakes(t, class(8), make([]api.Share, 3), api.ErrShape)
}

// The numbers of both parts don't make up for each other.
func TestPartsOfOneShareAreTwo(t *testing.T) {
	noneTakes(t, class(8), []api.Share{{A: []uint64{1, 2}}}, api.ErrShape)
	noneTakes(t, class(8), []api.Share{{B: []uint64{1, 2}}}, api.ErrShape)
	noneTakes(t, class(8), []api.Share{{A: []uint64{1, 2}, B: []uint64{3}}, {B: []uint64{4}}}, api.ErrShape)
}

// C doesn't count, whatever stands there.
func TestPartsCDoNotCount(t *testing.T) {
	for width := 1; width <= 64; width++ {
		c, plain := class(width), zeros(3)
		for i := range plain {
			plain[i].A[0], plain[i].B[0] = uint64(i)&1, 1
		}
		sent := slices.Repeat([]uint64{1}, 3*width)
		choices, xs, out := text(chosen(t, c, plain)), spread(t, c, plain), finished(t, c, plain, sent, sent)
		for _, part := range append(wrongParts(width), []uint64{1}) {
			l := copied(plain)
			l[0].C, l[2].C = part, part
			if text(chosen(t, c, l)) != choices || !slices.Equal(spread(t, c, l), xs) {
				t.Errorf("of %d bits choices or what is spread hang on C, %x", width, part)
			}
			if !slices.EqualFunc(finished(t, c, l, sent, sent), out, isSame) {
				t.Errorf("of %d bits what is finished hangs on C, %x", width, part)
			}
		}
	}
}

// The class is told first, then how many shares there are, then their parts.
func TestFirstErrorOfShares(t *testing.T) {
	for _, n := range []int{0, 1, 25} {
		for _, w := range wrongClasses() {
			noneTakes(t, w.class, make([]api.Share, n), w.code)
			noneTakes(t, w.class, zeros(n), w.code)
		}
	}
	for _, n := range []int{0, 25, 100} {
		noneTakes(t, class(8), make([]api.Share, n), api.ErrLimit)
	}
}
