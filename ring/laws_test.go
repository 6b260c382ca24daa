package ring_test

import (
	"slices"
	"testing"

	"trefoil/api"
	"trefoil/ring"
)

// P3.7

func TestLawsOfNumbers(t *testing.T) {
	few := append(slices.Clone(edges[len(edges)-4:]), numbers(4, 20)...)
	everyL(func(l int) {
		add := func(a, b uint64) uint64 { return ring.Add(l, a, b) }
		mul := func(a, b uint64) uint64 { return ring.Mul(l, a, b) }
		for _, a := range few {
			for _, b := range few {
				expect(t, "a sum turned about", l, add(a, b), add(b, a))
				expect(t, "a product turned about", l, mul(a, b), mul(b, a))
				expect(t, "what is added and taken away", l, ring.Sub(l, add(a, b), b), ring.Fit(l, a))
				expect(t, "what is taken away and added", l, add(ring.Sub(l, a, b), b), ring.Fit(l, a))
				expect(t, "what is taken away", l, ring.Sub(l, a, b), add(a, ring.Neg(l, b)))
				for _, c := range few {
					expect(t, "a sum of other brackets", l, add(add(a, b), c), add(a, add(b, c)))
					expect(t, "a product of other brackets", l, mul(mul(a, b), c), mul(a, mul(b, c)))
					expect(t, "a product spread over a sum", l, mul(a, add(b, c)), add(mul(a, b), mul(a, c)))
				}
			}
		}
	})
}

func TestWhatIsCutFirstComesToTheSame(t *testing.T) {
	everyL(func(l int) {
		for _, a := range samples() {
			for _, b := range edges {
				p, q := ring.Fit(l, a), ring.Fit(l, b)
				expect(t, "Add", l, ring.Add(l, p, q), ring.Add(l, a, b))
				expect(t, "Sub", l, ring.Sub(l, p, q), ring.Sub(l, a, b))
				expect(t, "Mul", l, ring.Mul(l, p, q), ring.Mul(l, a, b))
			}
		}
	})
}

func TestANumberIsWhatItsBitsSay(t *testing.T) {
	everyL(func(l int) {
		for _, x := range samples() {
			sum := uint64(0)
			for i, b := range ring.Bits(l, x) {
				if b {
					sum = ring.Add(l, sum, ring.Pow(l, 2, uint(i)))
				}
			}
			expect(t, "the sum of its bits", l, sum, ring.Fit(l, x))
		}
	})
}

func TestLawsOfLists(t *testing.T) {
	everyL(func(l int) {
		a, b, c := numbers(9, 21), numbers(9, 22), numbers(9, 23)
		sum, _ := ring.AddAll(l, a, b)
		back, code := ring.SubAll(l, sum, b)
		expectAll(t, "what is added and taken away", l, back, code, ring.Scale(l, 1, a))
		turned, code := ring.AddAll(l, b, a)
		expectAll(t, "a sum turned about", l, turned, code, sum)
		spread, code := ring.AddAll(l, ring.Scale(l, 7, a), ring.Scale(l, 7, b))
		expectAll(t, "Scale spread over a sum", l, spread, code, ring.Scale(l, 7, sum))
		ac, _ := ring.Dot(l, a, c)
		bc, _ := ring.Dot(l, b, c)
		dot, _ := ring.Dot(l, sum, c)
		expect(t, "Dot spread over a sum", l, dot, ring.Add(l, ac, bc))
	})
}

// must takes what a call makes of matrices that are allowed.
func must(t *testing.T) func([]uint64, api.Errno) []uint64 {
	return func(l []uint64, code api.Errno) []uint64 {
		t.Helper()
		if code != api.OK {
			t.Fatal("error", code)
		}
		return l
	}
}

func TestLawsOfMatrices(t *testing.T) {
	take := must(t)
	everySides(func(m, k, n int) {
		for _, l := range []int{1, 8, 33, 64} {
			mul := func(m, k, n int, a, b []uint64) []uint64 { return take(ring.MatMul(l, m, k, n, a, b)) }
			add := func(a, b []uint64) []uint64 { return take(ring.AddAll(l, a, b)) }
			a, a2, b, b2, c := numbers(m*k, 24), numbers(m*k, 25), numbers(k*n, 26), numbers(k*n, 27), numbers(n*m, 28)
			ab := mul(m, k, n, a, b)
			expectAll(t, "a product spread over the second sum", l, mul(m, k, n, a, add(b, b2)), api.OK, add(ab, mul(m, k, n, a, b2)))
			expectAll(t, "a product spread over the first sum", l, mul(m, k, n, add(a, a2), b), api.OK, add(ab, mul(m, k, n, a2, b)))
			expectAll(t, "a product of other brackets", l, mul(m, n, m, ab, c), api.OK, mul(m, k, m, a, mul(k, n, m, b, c)))
			turned := mul(n, k, m, take(ring.Turn(k, n, b)), take(ring.Turn(m, k, a)))
			expectAll(t, "a product turned", l, take(ring.Turn(m, n, ab)), api.OK, turned)
			expectAll(t, "a matrix turned twice", l, take(ring.Turn(k, m, take(ring.Turn(m, k, a)))), api.OK, a)
		}
	})
}

// Rules that hold everywhere: whose memory is whose.

// roomy tells the same numbers with spare room behind them, and the whole of it.
func roomy(l []uint64) (list, room []uint64) {
	room = append(slices.Clone(l), 71, 72, 73)
	return room[:len(l)], room
}

// callsOfLists are the calls that answer lists, asked of two matrices of 3 by 3.
func callsOfLists(t *testing.T) map[string]func(a, b []uint64) []uint64 {
	take := must(t)
	return map[string]func(a, b []uint64) []uint64{
		"AddAll": func(a, b []uint64) []uint64 { return take(ring.AddAll(64, a, b)) },
		"SubAll": func(a, b []uint64) []uint64 { return take(ring.SubAll(64, a, b)) },
		"Scale":  func(a, _ []uint64) []uint64 { return ring.Scale(64, 1, a) },
		"MatMul": func(a, b []uint64) []uint64 { return take(ring.MatMul(64, 3, 3, 3, a, b)) },
		"Turn":   func(a, _ []uint64) []uint64 { return take(ring.Turn(3, 3, a)) },
		"Turn of one row": func(a, _ []uint64) []uint64 {
			return take(ring.Turn(1, 4, a[:4]))
		},
		"Fits and Dot": func(a, b []uint64) []uint64 {
			ring.Fits(64, a)
			ring.Dot(64, a, b)
			return nil
		},
	}
}

func TestArgumentsAreNeitherChangedNorShared(t *testing.T) {
	for name, call := range callsOfLists(t) {
		a, roomA := roomy(numbers(9, 30))
		b, roomB := roomy(make([]uint64, 9)) // nothing is added, so that an answer may look like its argument
		wasA, wasB := slices.Clone(roomA), slices.Clone(roomB)
		first := call(a, b)
		second := call(a, b)
		kept := slices.Clone(second)
		for i := range first {
			first[i]++
		}
		for range cap(first) - len(first) {
			first = append(first, 99)
		}
		if !slices.Equal(roomA, wasA) || !slices.Equal(roomB, wasB) {
			t.Errorf("%s changes an argument, or shares memory with it", name)
		}
		if !slices.Equal(second, kept) {
			t.Errorf("%s: two answers share memory", name)
		}
		clear(roomA)
		clear(roomB)
		if !slices.Equal(second, kept) {
			t.Errorf("%s keeps an argument", name)
		}
	}
}

func TestBitsAreNewMemory(t *testing.T) {
	ring.Bits(8, 255)[0] = false
	if !slices.Equal(ring.Bits(8, 255), slices.Repeat([]bool{true}, 8)) {
		t.Error("two answers of Bits share memory")
	}
}

func TestOneListTwice(t *testing.T) {
	a := []uint64{1, 2, 3, 4}
	take := must(t)
	expectAll(t, "AddAll", 8, take(ring.AddAll(8, a, a)), api.OK, []uint64{2, 4, 6, 8})
	expectAll(t, "SubAll", 8, take(ring.SubAll(8, a, a)), api.OK, []uint64{0, 0, 0, 0})
	expectAll(t, "MatMul", 8, take(ring.MatMul(8, 2, 2, 2, a, a)), api.OK, []uint64{7, 10, 15, 22})
}
