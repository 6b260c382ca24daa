package baseot_test

import (
	"math"
	"math/big"
	"math/rand"
	"testing"

	"trefoil/api"
	"trefoil/baseot"
)

const top = math.MaxUint64

func anyRow(r *rand.Rand) api.Row { return api.Row{r.Uint64(), r.Uint64()} }

// someRows are the edges, each single bit, all others, and drawn ones.
func someRows() []api.Row {
	l := []api.Row{{}, {top, 0}, {0, top}, {top, top}, {1, 0}, {0, 1 << 63}, {258, 0}, {0, 258}}
	for i := range 64 {
		l = append(l, api.Row{1 << i, 0}, api.Row{0, 1 << i}, api.Row{^(uint64(1) << i), top}, api.Row{top, ^(uint64(1) << i)})
	}
	r := rand.New(rand.NewSource(1))
	for range 200 {
		l = append(l, anyRow(r))
	}
	return l
}

// number tells a row as one number without a bound, so that its bits may be asked for otherwise.
func number(r api.Row) *big.Int {
	n := new(big.Int).SetUint64(r[1])
	n.Lsh(n, 64)
	return n.Or(n, new(big.Int).SetUint64(r[0]))
}

// P15.1

func TestBitOfKnownRows(t *testing.T) {
	for _, c := range []struct {
		row  api.Row
		i    int
		want bool
	}{
		{api.Row{1, 0}, 0, true},
		{api.Row{1, 0}, 1, false},
		{api.Row{1, 0}, 64, false},
		{api.Row{0, 1}, 0, false},
		{api.Row{0, 1}, 64, true},
		{api.Row{1 << 63, 0}, 63, true},
		{api.Row{1 << 63, 0}, 127, false},
		{api.Row{0, 1 << 63}, 63, false},
		{api.Row{0, 1 << 63}, 127, true},
		{api.Row{6, 0}, 2, true},
		{api.Row{6, 0}, 3, false},
	} {
		if got := baseot.Bit(c.row, c.i); got != c.want {
			t.Errorf("Bit(%x, %d) is %t", c.row, c.i, got)
		}
	}
}

func TestBitOfAllPlaces(t *testing.T) {
	for _, row := range someRows() {
		whole := number(row)
		for i := range api.Kappa {
			if got := baseot.Bit(row, i); got != (whole.Bit(i) == 1) {
				t.Fatalf("Bit(%x, %d) is %t", row, i, got)
			}
		}
	}
}

func TestBitOfNoPlace(t *testing.T) {
	for _, i := range []int{-1, -2, -63, -64, -65, -127, -128, -1 << 32, math.MinInt, math.MinInt + 1, 128, 129, 191, 192, 255, 256, 1 << 31, 1 << 32, 1<<32 + 1, math.MaxInt - 1, math.MaxInt} {
		for _, row := range someRows() {
			if baseot.Bit(row, i) {
				t.Fatalf("Bit(%x, %d) is true", row, i)
			}
		}
	}
}

func TestOtherOfKnownRows(t *testing.T) {
	for _, c := range []struct{ a, b, want api.Row }{
		{api.Row{}, api.Row{}, api.Row{}},
		{api.Row{5, 1}, api.Row{1, 1}, api.Row{4, 0}},
		{api.Row{5, 9}, api.Row{3, 12}, api.Row{6, 5}},
		{api.Row{top, 0}, api.Row{0, top}, api.Row{top, top}},
		{api.Row{top, top}, api.Row{1, 1 << 63}, api.Row{top - 1, 1<<63 - 1}},
	} {
		if got := baseot.Other(c.a, c.b); got != c.want {
			t.Errorf("Other(%x, %x) is %x", c.a, c.b, got)
		}
	}
}

func TestOtherBitByBit(t *testing.T) {
	r := rand.New(rand.NewSource(2))
	for _, a := range someRows() {
		b := anyRow(r)
		c := baseot.Other(a, b)
		for i := range api.Kappa {
			if baseot.Bit(c, i) != (baseot.Bit(a, i) != baseot.Bit(b, i)) {
				t.Fatalf("Other(%x, %x) is %x", a, b, c)
			}
		}
		if baseot.Other(c, b) != a || baseot.Other(b, a) != c || baseot.Other(a, a) != (api.Row{}) || baseot.Other(a, api.Row{}) != a {
			t.Fatalf("Other of %x and %x isn't exclusive or", a, b)
		}
	}
}

func TestTimes(t *testing.T) {
	for _, row := range someRows() {
		if got := baseot.Times(true, row); got != row {
			t.Errorf("Times(true, %x) is %x", row, got)
		}
		if got := baseot.Times(false, row); got != (api.Row{}) {
			t.Errorf("Times(false, %x) is %x", row, got)
		}
	}
}

func TestBytesOfKnownRows(t *testing.T) {
	for _, c := range []struct {
		row  api.Row
		want string
	}{
		{api.Row{}, "\x00\x00\x00\x00\x00\x00\x00\x00\x00\x00\x00\x00\x00\x00\x00\x00"},
		{api.Row{258, 0}, "\x02\x01\x00\x00\x00\x00\x00\x00\x00\x00\x00\x00\x00\x00\x00\x00"},
		{api.Row{0, 258}, "\x00\x00\x00\x00\x00\x00\x00\x00\x02\x01\x00\x00\x00\x00\x00\x00"},
		{api.Row{0x0807060504030201, 0x100f0e0d0c0b0a09}, "\x01\x02\x03\x04\x05\x06\x07\x08\x09\x0a\x0b\x0c\x0d\x0e\x0f\x10"},
		{api.Row{top, 1 << 63}, "\xff\xff\xff\xff\xff\xff\xff\xff\x00\x00\x00\x00\x00\x00\x00\x80"},
	} {
		if got := baseot.Bytes(c.row); got != c.want {
			t.Errorf("Bytes(%x) is %x", c.row, got)
		}
	}
}

func TestBytesBitByBit(t *testing.T) {
	for _, row := range someRows() {
		s := baseot.Bytes(row)
		if len(s) != 16 {
			t.Fatalf("Bytes(%x) has %d bytes", row, len(s))
		}
		for i := range api.Kappa {
			if s[i/8]>>(i%8)%2 == 1 != baseot.Bit(row, i) {
				t.Fatalf("Bytes(%x) is %x", row, s)
			}
		}
	}
}
