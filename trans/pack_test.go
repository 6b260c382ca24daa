package trans_test

import (
	"math"
	"math/rand"
	"strings"
	"testing"

	"trefoil/api"
	"trefoil/bits"
	"trefoil/trans"
)

// P16.3

func TestPackOfKnownColumns(t *testing.T) {
	cols := make([]bits.Vec, 128)
	var want strings.Builder
	for i := range cols {
		cols[i], _ = bits.Words(9, []uint64{uint64(256 + i)})
		want.WriteByte(byte(i))
		want.WriteByte(1)
	}
	if got := packed(t, cols); got != want.String() {
		t.Errorf("Pack is %x", got)
	}
	if got := unpacked(t, 9, want.String()); !sameCols(got, cols) {
		t.Error("Unpack tells other columns")
	}
}

// textBit asks for bit j of column i in bytes of columns of n bits.
func textBit(s string, n, i, j int) bool {
	return s[i*((n+7)/8)+j/8]>>(j%8)%2 == 1
}

func TestPackOfDrawnColumns(t *testing.T) {
	r := rand.New(rand.NewSource(1))
	for _, n := range append([]int{65535, 65536, 65537}, sizes...) {
		cols := anyCols(t, r, 128, n)
		s := packed(t, cols)
		if len(s) != 128*((n+7)/8) {
			t.Fatalf("Pack of columns of %d bits has %d bytes", n, len(s))
		}
		for i, col := range cols {
			for j := range n {
				if textBit(s, n, i, j) != col.Get(j) {
					t.Fatalf("bit %d of column %d of %d is another in the bytes", j, i, n)
				}
			}
			if used := n % 8; used > 0 && s[(i+1)*((n+7)/8)-1]>>used != 0 {
				t.Fatalf("behind column %d of %d bits there are more", i, n)
			}
		}
	}
}

// drawnText draws bytes of 128 columns of n bits.
func drawnText(r *rand.Rand, n int) string {
	size := (n + 7) / 8
	b := make([]byte, 128*size)
	r.Read(b)
	for i := range 128 {
		if used := n % 8; used > 0 {
			b[(i+1)*size-1] &= 1<<used - 1
		}
	}
	return string(b)
}

func TestUnpackOfDrawnBytes(t *testing.T) {
	r := rand.New(rand.NewSource(2))
	for _, n := range append([]int{65535, 65536}, sizes...) {
		s := drawnText(r, n)
		cols := unpacked(t, n, s)
		if len(cols) != 128 {
			t.Fatalf("there are %d columns", len(cols))
		}
		for i, col := range cols {
			if col.Len() != n {
				t.Fatalf("column %d has %d bits, not %d", i, col.Len(), n)
			}
			for j := range n {
				if textBit(s, n, i, j) != col.Get(j) {
					t.Fatalf("bit %d of column %d of %d is another in the bytes", j, i, n)
				}
			}
		}
	}
}

func TestUnpackOfTooManyBits(t *testing.T) {
	long := strings.Repeat("\xff", 128*8193)
	for _, n := range []int{-1, -2, -7, -8, -128, math.MinInt32, math.MinInt + 1, math.MinInt, 65537, 65538, 65544, 1 << 22, 1<<22 + 1, 1 << 31, 1 << 32, math.MaxInt - 7, math.MaxInt - 6, math.MaxInt} {
		for _, s := range []string{"", "\x00", long[:128], long[:128*8192], long} { // ahead of ErrShape and ErrForm
			noCols(t, n, s, api.ErrLimit)
		}
	}
	for _, n := range []int{0, 65536} {
		if _, code := trans.Unpack(n, strings.Repeat("\xff", 128*n/8)); code != api.OK {
			t.Errorf("Unpack of %d bits a column: %d", n, code)
		}
	}
}

func TestUnpackOfAnotherNumberOfBytes(t *testing.T) {
	for _, n := range append([]int{65535, 65536}, sizes...) {
		right := 128 * ((n + 7) / 8)
		for _, size := range []int{0, 1, (n + 7) / 8, right - 128, right - 1, right + 1, right + 128, 2 * right} {
			if size < 0 || size == right {
				continue
			}
			noCols(t, n, strings.Repeat("\x00", size), api.ErrShape)
			noCols(t, n, strings.Repeat("\xff", size), api.ErrShape) // ahead of ErrForm
		}
	}
}

func TestUnpackOfBitsBehindTheLast(t *testing.T) {
	r := rand.New(rand.NewSource(3))
	for _, n := range []int{1, 2, 3, 4, 5, 6, 7, 9, 63, 65, 71, 129, 4095, 65535} {
		size := (n + 7) / 8
		s := []byte(drawnText(r, n))
		for i := range 128 {
			for place := n % 8; place < 8; place++ {
				s[(i+1)*size-1] ^= 1 << place
				noCols(t, n, string(s), api.ErrForm)
				s[(i+1)*size-1] ^= 1 << place
			}
		}
		if _, code := trans.Unpack(n, string(s)); code != api.OK {
			t.Errorf("what was turned back: %d", code)
		}
	}
}

func TestUnpackOfAllOnes(t *testing.T) {
	for _, n := range []int{8, 16, 64, 72, 128} { // no place is behind the last bit
		for i, col := range unpacked(t, n, strings.Repeat("\xff", 16*n)) {
			if col.Len() != n || col.Count() != n {
				t.Errorf("column %d of %d bits is %x", i, n, col.Raw())
			}
		}
	}
}
