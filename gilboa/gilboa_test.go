package gilboa_test

import (
	"math"
	"math/big"
	"math/rand"
	"slices"
	"testing"

	"trefoil/api"
	"trefoil/bits"
	"trefoil/gilboa"
)

const top = math.MaxUint64

// greatest tells the greatest number of so many bits.
func greatest(width int) uint64 {
	n := uint64(0)
	for i := range width {
		n += 1 << i
	}
	return n
}

// anyNumbers draws numbers of so many bits, among them the least and the greatest one.
func anyNumbers(r *rand.Rand, width, n int) []uint64 {
	l := make([]uint64, n)
	for i := range l {
		switch r.Intn(8) {
		case 0:
		case 1:
			l[i] = greatest(width)
		default:
			l[i] = r.Uint64() >> (64 - width)
		}
	}
	return l
}

// cut tells the lowest bits of a number without a bound.
func cut(width int, x *big.Int) uint64 {
	return new(big.Int).Mod(x, new(big.Int).Lsh(big.NewInt(1), uint(width))).Uint64()
}

// product multiplies by numbers without a bound.
func product(width int, a, b uint64) uint64 {
	return cut(width, new(big.Int).Mul(new(big.Int).SetUint64(a), new(big.Int).SetUint64(b)))
}

func chosen(t *testing.T, width int, as []uint64) bits.Vec {
	t.Helper()
	v, code := gilboa.Choices(width, as)
	if code != api.OK || v.Len() != width*len(as) {
		t.Fatalf("of %d numbers of %d bits Choices tells %d bits, with %d", len(as), width, v.Len(), code)
	}
	return v
}

func spread(t *testing.T, width, n int, rows []uint64) []uint64 {
	t.Helper()
	l, code := gilboa.Spread(width, n, rows)
	if code != api.OK || len(l) != width*len(rows) {
		t.Fatalf("of %d numbers of %d bits, %d each, Spread tells %d, with %d", len(rows), width, n, len(l), code)
	}
	return l
}

func folded(t *testing.T, width, n int, shares []uint64) []uint64 {
	t.Helper()
	l, code := gilboa.Fold(width, n, shares)
	if code != api.OK || len(l) != len(shares)/width {
		t.Fatalf("of %d shares of %d bits, %d each, Fold tells %d, with %d", len(shares), width, n, len(l), code)
	}
	return l
}

func multiplied(t *testing.T, width, n int, as, rows []uint64) []uint64 {
	t.Helper()
	l, code := gilboa.Rows(width, n, as, rows)
	if code != api.OK || len(l) != len(rows) {
		t.Fatalf("of %d numbers and %d in rows, of %d bits, %d each, Rows tells %d, with %d", len(as), len(rows), width, n, len(l), code)
	}
	return l
}

// text tells bits as digits, the first one first.
func text(v bits.Vec) string {
	s := make([]byte, v.Len())
	for i := range s {
		s[i] = '0'
		if v.Get(i) {
			s[i] = '1'
		}
	}
	return string(s)
}

// known is what another program reckoned: of numbers their bits, of rows what they are spread to, what that folds to, and the products of both.
type known struct {
	width, n                  int
	as, rows                  []uint64
	choices                   string
	spread, folded, multiples []uint64
}

func knownCases() []known {
	return []known{
		{1, 1, []uint64{0, 1}, []uint64{1, 1},
			"01",
			[]uint64{1, 1},
			[]uint64{1, 1},
			[]uint64{0, 1}},
		{1, 6, []uint64{1, 0}, []uint64{1, 0, 0, 0, 0, 1, 1, 0, 0, 0, 0, 0},
			"10",
			[]uint64{1, 0, 0, 0, 0, 1, 1, 0, 0, 0, 0, 0},
			[]uint64{1, 0, 0, 0, 0, 1, 1, 0, 0, 0, 0, 0},
			[]uint64{1, 0, 0, 0, 0, 1, 0, 0, 0, 0, 0, 0}},
		{4, 1, []uint64{5}, []uint64{3}, // the chapter's example
			"1010",
			[]uint64{3, 6, 12, 8},
			[]uint64{13},
			[]uint64{15}},
		{3, 2, []uint64{7, 0}, []uint64{5, 7, 1, 5},
			"111000",
			[]uint64{5, 7, 2, 6, 4, 4, 1, 5, 2, 2, 4, 4},
			[]uint64{3, 1, 7, 3},
			[]uint64{3, 1, 0, 0}},
		{7, 3, []uint64{0x5, 0x27}, []uint64{0x16, 0x1f, 0x5, 0x74, 0x29, 0x57},
			"10100001110010",
			[]uint64{0x16, 0x1f, 0x5, 0x2c, 0x3e, 0xa, 0x58, 0x7c, 0x14, 0x30, 0x78, 0x28, 0x60, 0x70, 0x50, 0x40, 0x60, 0x20, 0x0, 0x40, 0x40, 0x74, 0x29, 0x57, 0x68, 0x52, 0x2e, 0x50, 0x24, 0x5c, 0x20, 0x48, 0x38, 0x40, 0x10, 0x70, 0x0, 0x20, 0x60, 0x0, 0x40, 0x40},
			[]uint64{0x6a, 0x61, 0x7b, 0xc, 0x57, 0x29},
			[]uint64{0x6e, 0x1b, 0x19, 0x2c, 0x3f, 0x41}},
		{8, 2, []uint64{0xcd}, []uint64{0xf8, 0x4d},
			"10110011",
			[]uint64{0xf8, 0x4d, 0xf0, 0x9a, 0xe0, 0x34, 0xc0, 0x68, 0x80, 0xd0, 0x0, 0xa0, 0x0, 0x40, 0x0, 0x80},
			[]uint64{0x8, 0xb3},
			[]uint64{0x98, 0xa9}},
		{64, 1, []uint64{0x4abfadfd68dba816}, []uint64{0x62f7c6f97c0513a4},
			"0110100000010101110110110001011010111111101101011111110101010010",
			[]uint64{0x62f7c6f97c0513a4, 0xc5ef8df2f80a2748, 0x8bdf1be5f0144e90, 0x17be37cbe0289d20, 0x2f7c6f97c0513a40, 0x5ef8df2f80a27480, 0xbdf1be5f0144e900, 0x7be37cbe0289d200, 0xf7c6f97c0513a400, 0xef8df2f80a274800, 0xdf1be5f0144e9000, 0xbe37cbe0289d2000, 0x7c6f97c0513a4000, 0xf8df2f80a2748000, 0xf1be5f0144e90000, 0xe37cbe0289d20000, 0xc6f97c0513a40000, 0x8df2f80a27480000, 0x1be5f0144e900000, 0x37cbe0289d200000, 0x6f97c0513a400000, 0xdf2f80a274800000, 0xbe5f0144e9000000, 0x7cbe0289d2000000, 0xf97c0513a4000000, 0xf2f80a2748000000, 0xe5f0144e90000000, 0xcbe0289d20000000, 0x97c0513a40000000, 0x2f80a27480000000, 0x5f0144e900000000, 0xbe0289d200000000, 0x7c0513a400000000, 0xf80a274800000000, 0xf0144e9000000000, 0xe0289d2000000000, 0xc0513a4000000000, 0x80a2748000000000, 0x144e90000000000, 0x289d20000000000, 0x513a40000000000, 0xa27480000000000, 0x144e900000000000, 0x289d200000000000, 0x513a400000000000, 0xa274800000000000, 0x44e9000000000000, 0x89d2000000000000, 0x13a4000000000000, 0x2748000000000000, 0x4e90000000000000, 0x9d20000000000000, 0x3a40000000000000, 0x7480000000000000, 0xe900000000000000, 0xd200000000000000, 0xa400000000000000, 0x4800000000000000, 0x9000000000000000, 0x2000000000000000, 0x4000000000000000, 0x8000000000000000, 0x0, 0x0},
			[]uint64{0x9d08390683faec5c},
			[]uint64{0xbc54383a6a9f5018}},
	}
}

// P21.1 to P21.4

func TestKnownCases(t *testing.T) {
	for _, c := range knownCases() {
		if got := text(chosen(t, c.width, c.as)); got != c.choices {
			t.Errorf("of %x, of %d bits, Choices tells %s", c.as, c.width, got)
		}
		if got := spread(t, c.width, c.n, c.rows); !slices.Equal(got, c.spread) {
			t.Errorf("%x, of %d bits, is spread to %x", c.rows, c.width, got)
		}
		if got := folded(t, c.width, c.n, c.spread); !slices.Equal(got, c.folded) {
			t.Errorf("%x, of %d bits, is folded to %x", c.spread, c.width, got)
		}
		if got := multiplied(t, c.width, c.n, c.as, c.rows); !slices.Equal(got, c.multiples) {
			t.Errorf("%x times %x, of %d bits, is %x", c.as, c.rows, c.width, got)
		}
	}
}

// Of nothing there is nothing.
func TestNothing(t *testing.T) {
	for width := 1; width <= 64; width++ {
		for _, none := range [][]uint64{nil, {}} {
			if chosen(t, width, none).Len() != 0 {
				t.Error("of no numbers there are bits")
			}
			for n := 1; n <= 6; n++ {
				spread(t, width, n, none)
				folded(t, width, n, none)
				multiplied(t, width, n, none, none)
			}
		}
	}
}
