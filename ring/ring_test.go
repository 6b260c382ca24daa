package ring_test

import (
	"math"
	"math/big"
	"math/rand"
	"slices"
	"testing"

	"trefoil/api"
	"trefoil/ring"
)

// wrongBits are those that a number may not have.
var wrongBits = []int{0, -1, -64, math.MinInt, 65, 66, 128, math.MaxInt}

// edges are numbers about the ends of bits, of halves and of words.
var edges = []uint64{0, 1, 2, 3, 5, 100, 127, 128, 200, 255, 256, 1<<32 - 1, 1 << 32, 1<<32 + 1, 1<<63 - 1, 1 << 63, 1<<63 + 1, math.MaxUint64 - 1, math.MaxUint64}

// numbers makes n numbers; the same n and salt make the same.
func numbers(n int, salt int64) []uint64 {
	r := rand.New(rand.NewSource(int64(n)*1000 + salt))
	l := make([]uint64, n)
	for i := range l {
		l[i] = r.Uint64()
	}
	return l
}

// samples are numbers that are reckoned with: the edges, and mixed ones.
func samples() []uint64 { return append(slices.Clone(edges), numbers(12, 1)...) }

func whole(x uint64) *big.Int { return new(big.Int).SetUint64(x) }

// two is 2^l, reckoned without a bound.
func two(l int) *big.Int { return new(big.Int).Exp(big.NewInt(2), big.NewInt(int64(l)), nil) }

// cut is the whole result modulo 2^l; it isn't below 0, whatever the result.
func cut(l int, x *big.Int) uint64 { return new(big.Int).Mod(x, two(l)).Uint64() }

func expect(t *testing.T, name string, l int, got, want uint64) {
	t.Helper()
	if got != want {
		t.Errorf("%s of %d bits is %d, not %d", name, l, got, want)
	}
}

func expectAll(t *testing.T, name string, l int, got []uint64, code api.Errno, want []uint64) {
	t.Helper()
	if code != api.OK || !slices.Equal(got, want) {
		t.Errorf("%s of %d bits is %d (error %d), not %d", name, l, got, code, want)
	}
}

// refused checks that a call answered ErrShape, and nothing beside it.
func refused(t *testing.T, name string, got []uint64, code api.Errno) {
	t.Helper()
	if code != api.ErrShape || len(got) != 0 {
		t.Errorf("%s: error %d, not %d, and %d beside it", name, code, api.ErrShape, got)
	}
}

// everyL calls for each number of bits that may be.
func everyL(f func(l int)) {
	for l := 1; l <= api.MaxBits; l++ {
		f(l)
	}
}

// P3.1

func TestMask(t *testing.T) {
	everyL(func(l int) {
		want := new(big.Int).Sub(two(l), big.NewInt(1)).Uint64()
		if got, code := ring.Mask(l); got != want || code != api.OK {
			t.Errorf("Mask(%d) is %d, %d", l, got, code)
		}
	})
	for _, l := range wrongBits {
		if got, code := ring.Mask(l); got != 0 || code != api.ErrShape {
			t.Errorf("Mask(%d) is %d, %d", l, got, code)
		}
	}
}

func TestFit(t *testing.T) {
	everyL(func(l int) {
		for _, x := range samples() {
			expect(t, "Fit", l, ring.Fit(l, x), cut(l, whole(x)))
		}
	})
	for _, l := range wrongBits {
		for _, x := range samples() {
			expect(t, "Fit", l, ring.Fit(l, x), 0)
		}
	}
}

func TestFits(t *testing.T) {
	everyL(func(l int) {
		greatest := cut(l, big.NewInt(-1))
		if !ring.Fits(l, []uint64{0, 1, greatest, greatest / 2}) {
			t.Errorf("numbers of %d bits don't fit", l)
		}
		if l == api.MaxBits {
			return
		}
		for _, over := range []uint64{greatest + 1, 1 << 63, math.MaxUint64} {
			for i := range 3 {
				xs := []uint64{0, 1, greatest}
				xs[i] = over
				if ring.Fits(l, xs) {
					t.Errorf("%d fit %d bits", xs, l)
				}
			}
		}
	})
}

func TestFitsOfNoneAndOfWrongBits(t *testing.T) {
	for _, l := range append(slices.Clone(wrongBits), 1, 8, 64) {
		if !ring.Fits(l, nil) || !ring.Fits(l, []uint64{}) || !ring.Fits(l, []uint64{0, 0}) {
			t.Errorf("no numbers, or 0 alone, don't fit %d bits", l)
		}
	}
	for _, l := range wrongBits {
		if ring.Fits(l, []uint64{1}) || ring.Fits(l, []uint64{0, 0, math.MaxUint64}) {
			t.Errorf("a number that isn't 0 fits %d bits", l)
		}
	}
}

// P3.2

func TestAddSubMulNeg(t *testing.T) {
	everyL(func(l int) {
		for _, a := range samples() {
			p := whole(a)
			expect(t, "Neg", l, ring.Neg(l, a), cut(l, new(big.Int).Neg(p)))
			for _, b := range samples() {
				q := whole(b)
				expect(t, "Add", l, ring.Add(l, a, b), cut(l, new(big.Int).Add(p, q)))
				expect(t, "Sub", l, ring.Sub(l, a, b), cut(l, new(big.Int).Sub(p, q)))
				expect(t, "Mul", l, ring.Mul(l, a, b), cut(l, new(big.Int).Mul(p, q)))
			}
		}
	})
}

func TestPow(t *testing.T) {
	exponents := []uint{0, 1, 2, 3, 4, 7, 8, 40, 63, 64, 65, 1000, 1 << 31, 1<<32 + 1, 1 << 63, math.MaxUint - 1, math.MaxUint}
	everyL(func(l int) {
		for _, a := range samples() {
			for _, n := range exponents {
				want := new(big.Int).Exp(whole(a), whole(uint64(n)), two(l)).Uint64()
				expect(t, "Pow", l, ring.Pow(l, a, n), want)
			}
		}
	})
}

func TestPowIsTimesItself(t *testing.T) {
	everyL(func(l int) {
		for _, a := range samples() {
			product := uint64(1)
			for n := range uint(70) {
				expect(t, "Pow", l, ring.Pow(l, a, n), product)
				product = cut(l, new(big.Int).Mul(whole(product), whole(a)))
			}
		}
	})
}

func TestOfWrongBitsEveryNumberIsNothing(t *testing.T) {
	for _, l := range wrongBits {
		for _, a := range samples() {
			expect(t, "Neg", l, ring.Neg(l, a), 0)
			expect(t, "Pow, none", l, ring.Pow(l, a, 0), 0)
			expect(t, "Pow, once", l, ring.Pow(l, a, 1), 0)
			expect(t, "Pow, often", l, ring.Pow(l, a, math.MaxUint), 0)
			for _, b := range edges {
				expect(t, "Add", l, ring.Add(l, a, b), 0)
				expect(t, "Sub", l, ring.Sub(l, a, b), 0)
				expect(t, "Mul", l, ring.Mul(l, a, b), 0)
			}
		}
	}
}

// P3.3

func TestInverse(t *testing.T) {
	everyL(func(l int) {
		for _, a := range append(samples(), numbers(40, 2)...) {
			got, ok := ring.Inverse(l, a)
			if a%2 == 0 {
				if got != 0 || ok {
					t.Errorf("Inverse(%d) of %d bits is %d, %v", a, l, got, ok)
				}
				continue
			}
			want := new(big.Int).ModInverse(whole(a), two(l)).Uint64()
			if got != want || !ok {
				t.Errorf("Inverse(%d) of %d bits is %d, %v, not %d", a, l, got, ok, want)
			}
		}
	})
	for _, l := range wrongBits {
		for _, a := range samples() {
			if got, ok := ring.Inverse(l, a); got != 0 || ok {
				t.Errorf("Inverse(%d) of %d bits is %d, %v", a, l, got, ok)
			}
		}
	}
}

func TestInverseOfAllSmallNumbers(t *testing.T) {
	for l := 1; l <= 10; l++ {
		for a := range uint64(1) << l {
			got, ok := ring.Inverse(l, a)
			if ok != (a%2 == 1) || ok && (got*a%(1<<l) != 1 || got >= 1<<l) || !ok && got != 0 {
				t.Errorf("Inverse(%d) of %d bits is %d, %v", a, l, got, ok)
			}
		}
	}
}

// P3.4

func TestLists(t *testing.T) {
	everyL(func(l int) {
		for _, n := range []int{0, 1, 2, 7, 36, 300} {
			a, b, k := numbers(n, 3), numbers(n, 4), numbers(1, 5)[0]
			sums, differences, scaled := make([]uint64, n), make([]uint64, n), make([]uint64, n)
			products := new(big.Int)
			for i := range n {
				p, q := whole(a[i]), whole(b[i])
				sums[i] = cut(l, new(big.Int).Add(p, q))
				differences[i] = cut(l, new(big.Int).Sub(p, q))
				scaled[i] = cut(l, new(big.Int).Mul(whole(k), p))
				products.Add(products, new(big.Int).Mul(p, q))
			}
			got, code := ring.AddAll(l, a, b)
			expectAll(t, "AddAll", l, got, code, sums)
			got, code = ring.SubAll(l, a, b)
			expectAll(t, "SubAll", l, got, code, differences)
			expectAll(t, "Scale", l, ring.Scale(l, k, a), api.OK, scaled)
			if got, code := ring.Dot(l, a, b); got != cut(l, products) || code != api.OK {
				t.Errorf("Dot of %d numbers of %d bits is %d, %d", n, l, got, code)
			}
		}
	})
}

func TestListsOfWrongBits(t *testing.T) {
	for _, l := range wrongBits {
		a, b, zeros := numbers(9, 6), numbers(9, 7), make([]uint64, 9)
		got, code := ring.AddAll(l, a, b)
		expectAll(t, "AddAll", l, got, code, zeros)
		got, code = ring.SubAll(l, a, b)
		expectAll(t, "SubAll", l, got, code, zeros)
		expectAll(t, "Scale", l, ring.Scale(l, 3, a), api.OK, zeros)
		if got, code := ring.Dot(l, a, b); got != 0 || code != api.OK {
			t.Errorf("Dot of %d bits is %d, %d", l, got, code)
		}
	}
}

func TestListsOfUnlikeLengths(t *testing.T) {
	for _, l := range append(slices.Clone(wrongBits), 1, 8, 64) {
		for _, n := range [][2]int{{0, 1}, {1, 0}, {1, 2}, {7, 6}, {6, 36}} {
			for _, pair := range [][2][]uint64{{numbers(n[0], 1), numbers(n[1], 1)}, {make([]uint64, n[0]), make([]uint64, n[1])}} {
				got, code := ring.AddAll(l, pair[0], pair[1])
				refused(t, "AddAll", got, code)
				got, code = ring.SubAll(l, pair[0], pair[1])
				refused(t, "SubAll", got, code)
				if got, code := ring.Dot(l, pair[0], pair[1]); got != 0 || code != api.ErrShape {
					t.Errorf("Dot of unlike lengths is %d, %d", got, code)
				}
			}
		}
	}
	if got, code := ring.Dot(8, nil, nil); got != 0 || code != api.OK {
		t.Errorf("Dot of no numbers is %d, %d", got, code)
	}
	got, code := ring.AddAll(8, nil, []uint64{})
	expectAll(t, "AddAll of nil and none", 8, got, code, nil)
	got, code = ring.SubAll(8, []uint64{}, nil)
	expectAll(t, "SubAll of none and nil", 8, got, code, nil)
	expectAll(t, "Scale of nil", 8, ring.Scale(8, 3, nil), api.OK, nil)
}

// P3.5

// everySides calls for all sides of two matrices that may be.
func everySides(f func(m, k, n int)) {
	for m := 1; m <= api.MaxDim; m++ {
		for k := 1; k <= api.MaxDim; k++ {
			for n := 1; n <= api.MaxDim; n++ {
				f(m, k, n)
			}
		}
	}
}

// product is that of two matrices, reckoned without a bound and cut in the end.
func product(l, m, k, n int, a, b []uint64) []uint64 {
	var out []uint64
	for row := range m {
		for column := range n {
			sum := new(big.Int)
			for j := range k {
				sum.Add(sum, new(big.Int).Mul(whole(a[row*k+j]), whole(b[j*n+column])))
			}
			out = append(out, cut(l, sum))
		}
	}
	return out
}

func TestMatMul(t *testing.T) {
	everySides(func(m, k, n int) {
		a, b := numbers(m*k, 8), numbers(k*n, 9)
		for _, l := range []int{1, 2, 7, 8, 16, 31, 32, 33, 63, 64} {
			got, code := ring.MatMul(l, m, k, n, a, b)
			expectAll(t, "MatMul", l, got, code, product(l, m, k, n, a, b))
		}
	})
	everyL(func(l int) {
		a, b := numbers(6, 10), numbers(12, 11)
		got, code := ring.MatMul(l, 2, 3, 4, a, b)
		expectAll(t, "MatMul", l, got, code, product(l, 2, 3, 4, a, b))
	})
}

func TestTurn(t *testing.T) {
	everySides(func(m, k, _ int) {
		a := numbers(m*k, 12)
		var want []uint64
		for column := range k {
			for row := range m {
				want = append(want, a[row*k+column])
			}
		}
		got, code := ring.Turn(m, k, a)
		expectAll(t, "Turn", 64, got, code, want)
	})
}

// wrongSides are those that a matrix may not have; products of some of them wrap round to small numbers.
var wrongSides = []int{0, -1, -2, -6, 7, 8, 36, 1 << 32, -1 << 32, math.MinInt, math.MaxInt}

func TestMatricesOfWrongSides(t *testing.T) {
	lists := [][]uint64{nil, numbers(1, 1), numbers(2, 1), numbers(7, 1), numbers(8, 1), numbers(36, 1), numbers(49, 1)}
	for _, wrong := range wrongSides {
		for _, right := range append([]int{1, 2, 6}, wrongSides...) {
			for _, a := range lists {
				got, code := ring.Turn(wrong, right, a)
				refused(t, "Turn", got, code)
				got, code = ring.Turn(right, wrong, a)
				refused(t, "Turn", got, code)
				for _, b := range lists {
					for _, s := range [][3]int{{wrong, right, 1}, {1, wrong, right}, {right, 1, wrong}} {
						got, code = ring.MatMul(8, s[0], s[1], s[2], a, b)
						refused(t, "MatMul", got, code)
					}
				}
			}
		}
	}
}

func TestMatricesOfOneSideTooLong(t *testing.T) {
	got, code := ring.Turn(7, 1, numbers(7, 1))
	refused(t, "Turn of 7 rows", got, code)
	got, code = ring.Turn(1, 7, numbers(7, 1))
	refused(t, "Turn of 7 columns", got, code)
	got, code = ring.MatMul(8, 7, 1, 1, numbers(7, 1), numbers(1, 1))
	refused(t, "MatMul of 7 rows", got, code)
	got, code = ring.MatMul(8, 1, 7, 1, numbers(7, 1), numbers(7, 1))
	refused(t, "MatMul over 7", got, code)
	got, code = ring.MatMul(8, 1, 1, 7, numbers(1, 1), numbers(7, 1))
	refused(t, "MatMul of 7 columns", got, code)
}

func TestMatricesOfWrongLists(t *testing.T) {
	everySides(func(m, k, n int) {
		a, b := numbers(m*k, 1), numbers(k*n, 2)
		for _, p := range [][]uint64{nil, a[1:], append(slices.Clone(a), 0)} {
			if len(p) == len(a) {
				continue
			}
			got, code := ring.Turn(m, k, p)
			refused(t, "Turn", got, code)
			got, code = ring.MatMul(8, m, k, n, p, b)
			refused(t, "MatMul, the first", got, code)
		}
		for _, q := range [][]uint64{nil, b[1:], append(slices.Clone(b), 0)} {
			got, code := ring.MatMul(8, m, k, n, a, q)
			refused(t, "MatMul, the second", got, code)
		}
	})
}

func TestMatMulOfWrongBits(t *testing.T) {
	for _, l := range wrongBits {
		got, code := ring.MatMul(l, 2, 3, 4, numbers(6, 1), numbers(12, 1))
		refused(t, "MatMul", got, code)
		got, code = ring.MatMul(l, 0, 3, 4, nil, numbers(12, 1))
		refused(t, "MatMul", got, code)
	}
}

// P3.6

func TestBits(t *testing.T) {
	everyL(func(l int) {
		for _, x := range samples() {
			got := ring.Bits(l, x)
			if len(got) != l {
				t.Fatalf("Bits(%d, %d) are %d", l, x, len(got))
			}
			for i, b := range got {
				if b != (whole(x).Bit(i) == 1) {
					t.Errorf("Bits(%d, %d): bit %d is %v", l, x, i, b)
				}
			}
		}
	})
	for _, l := range wrongBits {
		for _, x := range samples() {
			if got := ring.Bits(l, x); len(got) != 0 {
				t.Errorf("Bits(%d, %d) are %v", l, x, got)
			}
		}
	}
}

func TestExamples(t *testing.T) {
	expect(t, "Add", 8, ring.Add(8, 200, 100), 44)
	expect(t, "Mul", 8, ring.Mul(8, 16, 16), 0)
	expect(t, "Neg", 8, ring.Neg(8, 1), 255)
	if x, ok := ring.Inverse(8, 3); x != 171 || !ok {
		t.Error("Inverse(3) of 8 bits is", x, ok)
	}
}
