package scalar_test

import (
	"math"
	"math/big"
	"math/rand"
	"slices"
	"testing"

	"trefoil/api"
	"trefoil/bits"
	"trefoil/scalar"
	"trefoil/tape"
)

const top = math.MaxUint64

// greatest tells the greatest number of so many bits.
func greatest(width int) uint64 {
	n := uint64(0)
	for i := range width {
		n += 1 << i
	}
	return n
}

// anyNumbers draws numbers of so many bits, among them the least and the greatest one.
func anyNumbers(r *rand.Rand, width, n int) []uint64 {
	l := make([]uint64, n)
	for i := range l {
		switch r.Intn(8) {
		case 0:
		case 1:
			l[i] = greatest(width)
		default:
			l[i] = r.Uint64() >> (64 - width)
		}
	}
	return l
}

// cut tells the lowest bits of a number without a bound.
func cut(width int, x *big.Int) uint64 {
	return new(big.Int).Mod(x, new(big.Int).Lsh(big.NewInt(1), uint(width))).Uint64()
}

func bigger(x uint64) *big.Int { return new(big.Int).SetUint64(x) }

func class(width int) api.Class { return api.Class{Kind: api.Scalar, Bits: width} }

// pairs makes shares of numbers, A and B by turns.
func pairs(numbers []uint64) []api.Share {
	l := make([]api.Share, len(numbers)/2)
	for i := range l {
		l[i] = api.Share{A: []uint64{numbers[2*i]}, B: []uint64{numbers[2*i+1]}}
	}
	return l
}

func anyShares(r *rand.Rand, width, n int) []api.Share { return pairs(anyNumbers(r, width, 2*n)) }

// triple makes a share of numbers.
func triple(a, b, c uint64) api.Share {
	return api.Share{A: []uint64{a}, B: []uint64{b}, C: []uint64{c}}
}

func isSame(a, b api.Share) bool {
	return slices.Equal(a.A, b.A) && slices.Equal(a.B, b.B) && slices.Equal(a.C, b.C)
}

// copied tells shares in memory of their own.
func copied(l []api.Share) []api.Share {
	out := make([]api.Share, len(l))
	for i, s := range l {
		out[i] = api.Share{A: slices.Clone(s.A), B: slices.Clone(s.B), C: slices.Clone(s.C)}
	}
	return out
}

func newTape(t *testing.T, words []uint64) *tape.Tape {
	t.Helper()
	made, err := tape.New(words)
	if err != nil {
		t.Fatal(err)
	}
	return made
}

func drawn(t *testing.T, c api.Class, n int, from *tape.Tape) []api.Share {
	t.Helper()
	l, err := scalar.Draw(c, n, from)
	if err != nil || len(l) != n {
		t.Fatalf("of %d of %d bits Draw tells %d, with %v", n, c.Bits, len(l), err)
	}
	return l
}

func chosen(t *testing.T, c api.Class, l []api.Share) bits.Vec {
	t.Helper()
	v, code := scalar.Choices(c, l)
	if code != api.OK || v.Len() != c.Bits*len(l) {
		t.Fatalf("of %d shares of %d bits Choices tells %d bits, with %d", len(l), c.Bits, v.Len(), code)
	}
	return v
}

func spread(t *testing.T, c api.Class, l []api.Share) []uint64 {
	t.Helper()
	xs, code := scalar.Spread(c, l)
	if code != api.OK || len(xs) != c.Bits*len(l) {
		t.Fatalf("of %d shares of %d bits Spread tells %d, with %d", len(l), c.Bits, len(xs), code)
	}
	return xs
}

func finished(t *testing.T, c api.Class, l []api.Share, sent, got []uint64) []api.Share {
	t.Helper()
	out, code := scalar.Finish(c, l, sent, got)
	if code != api.OK || len(out) != len(l) {
		t.Fatalf("of %d shares of %d bits Finish tells %d, with %d", len(l), c.Bits, len(out), code)
	}
	return out
}

// text tells bits as digits, the first one first.
func text(v bits.Vec) string {
	s := make([]byte, v.Len())
	for i := range s {
		s[i] = '0'
		if v.Get(i) {
			s[i] = '1'
		}
	}
	return string(s)
}

// known is what another program reckoned: of a tape's words the parts, their choices, what is spread, and C of shares that were sent and got.
type known struct {
	width             int
	words, as, bs     []uint64
	choices           string
	spread, sent, got []uint64
	cs                []uint64
}

func knownCases() []known {
	return []known{
		{1,
			[]uint64{0x3, 0x2, 0x5, 0x7, 0x4, 0x1, 0xffffffffffffffff, 0x8000000000000001},
			[]uint64{0x1, 0x1, 0x0, 0x1}, []uint64{0x0, 0x1, 0x1, 0x1},
			"1101",
			[]uint64{0x0, 0x1, 0x1, 0x1},
			[]uint64{0x1, 0x0, 0x1, 0x1},
			[]uint64{0x1, 0x1, 0x1, 0x0},
			[]uint64{0x0, 0x0, 0x0, 0x0}},
		{8, // the numbers of the chapter's example
			[]uint64{0x3, 0x5, 0x4, 0x6},
			[]uint64{0x3, 0x4}, []uint64{0x5, 0x6},
			"1100000000100000",
			[]uint64{0x5, 0xa, 0x14, 0x28, 0x50, 0xa0, 0x40, 0x80, 0x6, 0xc, 0x18, 0x30, 0x60, 0xc0, 0x80, 0x0},
			[]uint64{0xf9, 0xf2, 0xd8, 0x5, 0x41, 0x90, 0xfe, 0xb1, 0x71, 0x5c, 0xdc, 0xe, 0x46, 0x9b, 0xc, 0xad},
			[]uint64{0xaa, 0x2e, 0xb9, 0x48, 0x7, 0x9b, 0x7c, 0x81, 0x54, 0x4c, 0xcf, 0x8f, 0x8d, 0x37, 0xe, 0x1},
			[]uint64{0xcf, 0x3a}},
		{12,
			[]uint64{0x1388, 0x7, 0x75bcd15, 0xfff},
			[]uint64{0x388, 0xd15}, []uint64{0x7, 0xfff},
			"000100011100101010001011",
			[]uint64{0x7, 0xe, 0x1c, 0x38, 0x70, 0xe0, 0x1c0, 0x380, 0x700, 0xe00, 0xc00, 0x800, 0xfff, 0xffe, 0xffc, 0xff8, 0xff0, 0xfe0, 0xfc0, 0xf80, 0xf00, 0xe00, 0xc00, 0x800},
			[]uint64{0x3b5, 0x39c, 0x7a6, 0xfb, 0xedf, 0xf69, 0x2ab, 0x50e, 0x633, 0xc, 0xb1e, 0xfb4, 0xcd7, 0xe5, 0x23b, 0xf8c, 0x88f, 0x506, 0x363, 0x34f, 0x930, 0xda2, 0x439, 0x169},
			[]uint64{0x6da, 0xca5, 0xd7a, 0x70a, 0xd94, 0x9c1, 0x392, 0x862, 0x4d6, 0xb0, 0xba4, 0xa95, 0x9c4, 0xc1d, 0xdc8, 0x38d, 0x5a2, 0xfa7, 0x60, 0x15f, 0xe96, 0x18e, 0x77f, 0x2d4},
			[]uint64{0x6c7, 0xbde}},
		{5,
			[]uint64{0xa211ebfc69b34504, 0xd599f98671d5d8d, 0xd583408f7c6acd0e, 0xc826a938ed8c4860, 0xdd478bf0929cd181, 0xa853582eb8558921},
			[]uint64{0x4, 0xe, 0x1}, []uint64{0xd, 0x0, 0x1},
			"001000111010000",
			[]uint64{0xd, 0x1a, 0x14, 0x8, 0x10, 0x0, 0x0, 0x0, 0x0, 0x0, 0x1, 0x2, 0x4, 0x8, 0x10},
			[]uint64{0x8, 0x2, 0x12, 0x7, 0x13, 0x1a, 0x5, 0x15, 0x1e, 0x1a, 0xf, 0xe, 0x1f, 0xd, 0x7},
			[]uint64{0xd, 0xf, 0x5, 0x19, 0xf, 0x0, 0xa, 0x2, 0x17, 0xf, 0x4, 0x16, 0x11, 0x1b, 0xe},
			[]uint64{0x13, 0x1e, 0x5}},
		{64,
			[]uint64{0x17ef995d289f2aad, 0xd2167d76cc08d755},
			[]uint64{0x17ef995d289f2aad}, []uint64{0xd2167d76cc08d755},
			"1011010101010100111110010001010010111010100110011111011111101000",
			[]uint64{0xd2167d76cc08d755, 0xa42cfaed9811aeaa, 0x4859f5db30235d54, 0x90b3ebb66046baa8, 0x2167d76cc08d7550, 0x42cfaed9811aeaa0, 0x859f5db30235d540, 0xb3ebb66046baa80, 0x167d76cc08d75500, 0x2cfaed9811aeaa00, 0x59f5db30235d5400, 0xb3ebb66046baa800, 0x67d76cc08d755000, 0xcfaed9811aeaa000, 0x9f5db30235d54000, 0x3ebb66046baa8000, 0x7d76cc08d7550000, 0xfaed9811aeaa0000, 0xf5db30235d540000, 0xebb66046baa80000, 0xd76cc08d75500000, 0xaed9811aeaa00000, 0x5db30235d5400000, 0xbb66046baa800000, 0x76cc08d755000000, 0xed9811aeaa000000, 0xdb30235d54000000, 0xb66046baa8000000, 0x6cc08d7550000000, 0xd9811aeaa0000000, 0xb30235d540000000, 0x66046baa80000000, 0xcc08d75500000000, 0x9811aeaa00000000, 0x30235d5400000000, 0x6046baa800000000, 0xc08d755000000000, 0x811aeaa000000000, 0x235d54000000000, 0x46baa8000000000, 0x8d7550000000000, 0x11aeaa0000000000, 0x235d540000000000, 0x46baa80000000000, 0x8d75500000000000, 0x1aeaa00000000000, 0x35d5400000000000, 0x6baa800000000000, 0xd755000000000000, 0xaeaa000000000000, 0x5d54000000000000, 0xbaa8000000000000, 0x7550000000000000, 0xeaa0000000000000, 0xd540000000000000, 0xaa80000000000000, 0x5500000000000000, 0xaa00000000000000, 0x5400000000000000, 0xa800000000000000, 0x5000000000000000, 0xa000000000000000, 0x4000000000000000, 0x8000000000000000},
			[]uint64{0x82d88a9461aca4f2, 0x235a17df07129803, 0xf1d4e27af20a195a, 0x85487448cca9a5a5, 0xef42b8ea79a61461, 0x6182952357802ff1, 0xbfff38e33ec77e, 0x199a24273cd5206d, 0x74d5a0c712497b4c, 0x9321b4ce115bca15, 0x8f7ff4b47d9aa3aa, 0x2c7c4c8fadde8a83, 0x64a1e250610b26eb, 0x9873b980857ff929, 0x1e48b26b52cf3880, 0x72b0337936bf41f2, 0xdfae4d9d9b5b432, 0xee6094231ab2e73b, 0x2d34963be96d02ed, 0xb9848191193352bf, 0xd9688f2551b462e0, 0xa6bd9146babe30f9, 0xa94e30cbdb611e0f, 0x7bb99bc4afb84bef, 0xa07a3e96619c5f66, 0xca3e699b8679b5c2, 0xf69f873403b82484, 0xaf0b9792b1cd61df, 0xe9e8fc0306ad6370, 0x9d8dfa9a7b1cefbf, 0x93b7b13b9fa2eb39, 0xa80a472d3ca9341f, 0xe648447ab115adb6, 0xeccd3a73df0f8774, 0xc3850b73bf652d40, 0xe96cffcdc7065526, 0xddf4a45002b05c0c, 0xa28d333c6ecee27c, 0xfda3f0f1387cdde3, 0xd2a3c04d0cd93960, 0xf4629467c38aa7e, 0x9cdf77e4db44525, 0xbf42681791af27f0, 0xcd8686faa765afa, 0x7aeed579a4102359, 0x4b28c49a5c3ad003, 0xa4d9facc32609a9, 0x5d2a1b25a82d8391, 0x5749e620c4f8c41f, 0x6cbdde8f63a94694, 0x7f9b8647dc8d6316, 0xd76bf72e22710f6b, 0xd45843efe46a2e4a, 0x3e546c8b3f2fc075, 0x720b1b00807137d3, 0xc7d752d39dd36646, 0x33b38e3162441ee4, 0xee66cac7737a63b, 0x3bc1f448df56dbaa, 0x28fa84164179653f, 0x48444e2e8f283de2, 0x9609674294f2689b, 0xe18bfa6dc72ed43a, 0xb938819c324ee5e3},
			[]uint64{0xa1351769ad7abc14, 0x7dfb29923f0d7217, 0x345c0d45bbd4e0a4, 0x9e337c307e475c71, 0x518374d23e3d4174, 0x608041bb4a6a16f0, 0x8bfc0107273dc561, 0xc32159821f706699, 0xa0e52adb7dfb61b6, 0x9acf9cbd1e4751e, 0x7080aa513c68adca, 0x20dc64d276110488, 0x917ba6072872f44b, 0xa7622037544900ff, 0xdfe43e6ef4921bd2, 0x3d3f507632d035f1, 0xab8c035dfe731c17, 0xe70c8a2612edca15, 0x4b25d20ef679a5d6, 0x573d1134101158f, 0x844bd59370788e76, 0x7370df65f63edf71, 0x95914d4c7ae512c1, 0xb56410a6d6c0d319, 0x884ce476e9cfb4b3, 0x28417b9afe767388, 0xc81573bec6bc09cc, 0x4ac6e41e0f847773, 0xc98aa60cca816271, 0xee3cd299b83d7a33, 0xdad08fad605e63ee, 0xac3f8e193b75a2af, 0x9d447bcfd9ddfbcf, 0x66869e6ef7045a0f, 0xffcec2d67d38448f, 0xaf746af786829b5a, 0xf23f95ad0f977143, 0x759716428b1aa644, 0xd068fb524da91311, 0x1020f7105bcd7992, 0xc59d96c32e7de368, 0x9b18b8a004cbc252, 0x75da671d25589040, 0xcb1fb869e6df1faa, 0x717ea39c53ad07e6, 0x5d6dddbc60968e11, 0xd616167c7f754b6d, 0xa2b0e0bd05f6797d, 0xf258f969ef8cfaa5, 0x9d89a09084b4ce88, 0x2fc52ffe9ad17000, 0xfe5e2d91bf419a9a, 0x91ceab9253390d7e, 0xddc5f594969f6e02, 0xcbc95b0427e4d558, 0x7e870c308193c8d6, 0x21fa101e433ae894, 0x77c1b7547206ed78, 0xf1f77188c9472d58, 0x2e36c8533605a64d, 0xde3fedfee98ca3bf, 0xd189bb7efc3de199, 0x2759f5712878a860, 0x2d2ef93be7abe5be},
			[]uint64{0xa38edbbb969d91d4}},
	}
}

// P22.1 to P22.3

func TestKnownCases(t *testing.T) {
	for _, k := range knownCases() {
		c := class(k.width)
		l := drawn(t, c, len(k.as), newTape(t, k.words))
		for i, s := range l {
			if !isSame(s, api.Share{A: k.as[i : i+1], B: k.bs[i : i+1]}) {
				t.Errorf("the share %d of %x, of %d bits, is %x", i, k.words, k.width, s)
			}
		}
		if got := text(chosen(t, c, l)); got != k.choices {
			t.Errorf("of %x, of %d bits, Choices tells %s", k.as, k.width, got)
		}
		if got := spread(t, c, l); !slices.Equal(got, k.spread) {
			t.Errorf("%x, of %d bits, is spread to %x", k.bs, k.width, got)
		}
		for i, s := range finished(t, c, l, k.sent, k.got) {
			if !isSame(s, triple(k.as[i], k.bs[i], k.cs[i])) {
				t.Errorf("the share %d of %x, of %d bits, becomes %x, not %x", i, k.words, k.width, s, k.cs[i])
			}
		}
	}
}
