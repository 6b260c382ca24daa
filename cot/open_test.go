package cot_test

import (
	"math"
	"math/rand"
	"slices"
	"testing"

	"trefoil/api"
	"trefoil/cot"
	"trefoil/ring"
)

// P19.3

func TestOpenOfKnownShares(t *testing.T) {
	for _, c := range []struct {
		width      int
		a, b, want []uint64
	}{
		{8, []uint64{200, 1, 0}, []uint64{100, 2, 0}, []uint64{44, 3, 0}},
		{1, []uint64{1, 1, 0}, []uint64{1, 0, 0}, []uint64{0, 1, 0}},
		{64, []uint64{top, 1 << 63}, []uint64{2, 1 << 63}, []uint64{1, 0}},
		{63, []uint64{1 << 62}, []uint64{1 << 62}, []uint64{0}},
		{4, []uint64{0x123, 0xfffffff0}, []uint64{0x1001, 5}, []uint64{4, 5}}, // what is above is cut off
	} {
		if got := opened(t, c.width, c.a, c.b); !slices.Equal(got, c.want) {
			t.Errorf("of %d bits %x and %x open to %x", c.width, c.a, c.b, got)
		}
	}
}

func TestOpenOfDrawnShares(t *testing.T) {
	r := rand.New(rand.NewSource(1))
	for width := 1; width <= 64; width++ {
		for _, n := range []int{0, 1, 2, 36, 100} {
			for _, bits := range []int{width, 64} { // of 64 bits many are more than a share may have
				a, b := anyNumbers(r, bits, n), anyNumbers(r, bits, n)
				got := opened(t, width, a, b)
				for i := range got {
					if got[i] != together(width, []uint64{a[i], b[i]}, nil) {
						t.Fatalf("of %d bits %x and %x open to %x", width, a[i], b[i], got[i])
					}
				}
			}
		}
	}
}

func TestOpenOfMany(t *testing.T) {
	r := rand.New(rand.NewSource(2))
	a, b := anyNumbers(r, 40, 100000), anyNumbers(r, 40, 100000) // no limit is named
	want, _ := ring.AddAll(40, a, b)
	if !slices.Equal(opened(t, 40, a, b), want) {
		t.Error("100000 shares open to others than their sums")
	}
}

func TestOpenOfNotAsMany(t *testing.T) {
	for _, width := range []int{1, 8, 64, 0, -1, 65, math.MaxInt64, math.MinInt64} {
		for a := range 8 {
			for b := range 8 {
				got, code := cot.Open(width, make([]uint64, a), make([]uint64, b))
				if a != b && (code != api.ErrShape || len(got) != 0) {
					t.Errorf("of %d and %d shares %d open, with %d", a, b, len(got), code)
				}
				if a == b && (code != api.OK || len(got) != a) {
					t.Errorf("of %d shares each %d open, with %d", a, len(got), code)
				}
			}
		}
	}
	if got, code := cot.Open(8, nil, []uint64{}); code != api.OK || len(got) != 0 {
		t.Errorf("of no shares %d open, with %d", len(got), code)
	}
}

// What ring.AddAll tells of widths that may not be, Open tells, too.
func TestOpenOfWrongWidths(t *testing.T) {
	a, b := []uint64{1, 2, top}, []uint64{3, top, top}
	for _, width := range wrongWidths() {
		want, wantCode := ring.AddAll(width, a, b)
		if got, code := cot.Open(width, a, b); code != wantCode || !slices.Equal(got, want) {
			t.Errorf("of %d bits %x opens, with %d, not %x, with %d", width, got, code, want, wantCode)
		}
	}
}
