package trans_test

import (
	"math/rand"
	"slices"
	"testing"

	"trefoil/api"
	"trefoil/bits"
	"trefoil/trans"
)

// P16.4

func TestThereAndBack(t *testing.T) {
	r := rand.New(rand.NewSource(1))
	for _, n := range append([]int{65535, 65536}, sizes...) {
		cols := anyCols(t, r, 128, n)
		if back := colsOf(t, rowsOf(t, cols)); !sameCols(back, cols) {
			t.Errorf("Cols of Rows of %d bits are others", n)
		}
		if back := unpacked(t, n, packed(t, cols)); !sameCols(back, cols) {
			t.Errorf("Unpack of Pack of %d bits are others", n)
		}
		rows := anyRows(r, n)
		if back := rowsOf(t, colsOf(t, rows)); !slices.Equal(back, rows) {
			t.Errorf("Rows of Cols of %d rows are others", n)
		}
		s := drawnText(r, n)
		if back := packed(t, unpacked(t, n, s)); back != s {
			t.Errorf("Pack of Unpack of %d bits are others", n)
		}
	}
}

// Turning bits by exclusive or, then to rows, comes to the same as the other way about.
func TestRowsOfXor(t *testing.T) {
	r := rand.New(rand.NewSource(2))
	for _, n := range sizes {
		a, b := anyCols(t, r, 128, n), anyCols(t, r, 128, n)
		both := make([]bits.Vec, 128)
		for i := range both {
			both[i], _ = bits.Xor(a[i], b[i])
		}
		left, right := rowsOf(t, a), rowsOf(t, b)
		for j, row := range rowsOf(t, both) {
			if row != (api.Row{left[j][0] ^ right[j][0], left[j][1] ^ right[j][1]}) {
				t.Fatalf("row %d of %d isn't the Xor of the two", j, n)
			}
		}
	}
}

// Rules that hold everywhere: whose memory is whose.

// withSpare tells a copy with room behind it that holds what must stay.
func withSpare[T any](l []T, spare ...T) []T {
	return slices.Concat(l, spare)[:len(l)]
}

func TestWhatIsHandedInIsNotChanged(t *testing.T) {
	r := rand.New(rand.NewSource(3))
	for _, n := range []int{1, 64, 100, 129} {
		rows, more := anyRows(r, n), anyRows(r, 70)
		given := withSpare(rows, more...)
		colsOf(t, given)
		if !slices.Equal(given[:n+70], slices.Concat(rows, more)) {
			t.Errorf("Cols changed what it was given of %d rows", n)
		}
		cols, others := anyCols(t, r, 128, n), anyCols(t, r, 3, n)
		handed := withSpare(cols, others...)
		rowsOf(t, handed)
		packed(t, handed)
		if !sameCols(handed[:131], slices.Concat(cols, others)) {
			t.Errorf("Rows or Pack changed what it was given of %d bits", n)
		}
	}
}

func TestColumnsDontHangOnTheirRows(t *testing.T) {
	r := rand.New(rand.NewSource(4))
	rows := anyRows(r, 130)
	first := slices.Clone(rows)
	cols := colsOf(t, rows)
	clear(rows)
	turned(t, cols, first)
}

func TestAnswersAreNewMemory(t *testing.T) {
	cols := anyCols(t, rand.New(rand.NewSource(5)), 128, 130)
	rows, again := rowsOf(t, cols), rowsOf(t, cols)
	_ = append(rows, api.Row{1, 1}) // writes into spare room, if there is some
	spoilt := rows[:cap(rows)]
	clear(spoilt)
	turned(t, cols, again)
	turned(t, cols, rowsOf(t, cols))

	s := packed(t, cols)
	for _, build := range []func() []bits.Vec{
		func() []bits.Vec { return colsOf(t, again) },
		func() []bits.Vec { return unpacked(t, 130, s) },
	} {
		one, other := build(), build()
		_ = append(one, bits.Vec{})
		clear(one[:cap(one)])
		for _, col := range other {
			clear(col.Raw())
		}
		if !sameCols(other, cols) || !sameCols(build(), cols) {
			t.Error("answers share memory")
		}
	}
}

// With an error nothing is kept: the next answer is as it would have been.
func TestErrorsLeaveNothingBehind(t *testing.T) {
	cols := anyCols(t, rand.New(rand.NewSource(6)), 128, 75)
	rows, s := rowsOf(t, cols), packed(t, cols)
	trans.Rows(cols[1:])
	trans.Pack(cols[1:])
	trans.Unpack(74, s)
	trans.Cols(make([]api.Row, 65537))
	turned(t, cols, rows)
	if !sameCols(unpacked(t, 75, s), cols) || !sameCols(colsOf(t, rows), cols) || packed(t, cols) != s {
		t.Error("what comes behind errors is another")
	}
}
