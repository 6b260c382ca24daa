package scalar_test

import (
	"math/big"
	"math/rand"
	"testing"

	"trefoil/api"
	"trefoil/scalar"
)

// P22.4

// isTriple tells by numbers without a bound whether two shares come to a product.
func isTriple(width int, s, o api.Share) bool {
	a := new(big.Int).Add(bigger(s.A[0]), bigger(o.A[0]))
	b := new(big.Int).Add(bigger(s.B[0]), bigger(o.B[0]))
	c := new(big.Int).Add(bigger(s.C[0]), bigger(o.C[0]))
	return cut(width, a.Mul(a, b)) == cut(width, c)
}

// isHeld holds Right against that, in either order.
func isHeld(t *testing.T, width int, s, o api.Share) {
	t.Helper()
	want := isTriple(width, s, o)
	if scalar.Right(class(width), s, o) != want || scalar.Right(class(width), o, s) != want {
		t.Fatalf("that %x and %x, of %d bits, are Right isn't %t", s, o, width, want)
	}
}

func TestRightOfTheExample(t *testing.T) {
	if !scalar.Right(class(8), triple(3, 5, 77), triple(4, 6, 0)) {
		t.Error("7 times 11 isn't 77")
	}
	for c := range uint64(256) {
		if scalar.Right(class(8), triple(3, 5, c), triple(4, 6, 0)) != (c == 77) {
			t.Errorf("7 times 11 and %d", c)
		}
		if !scalar.Right(class(8), triple(3, 5, c), triple(4, 6, (77-c)&255)) {
			t.Errorf("7 times 11 isn't %d and what lacks", c)
		}
	}
}

func TestRightOfAllSmallShares(t *testing.T) {
	for width := 1; width <= 2; width++ {
		mask := greatest(width)
		for i := range uint64(1) << (6 * width) {
			at := func(part int) uint64 { return i >> (part * width) & mask }
			isHeld(t, width, triple(at(0), at(1), at(2)), triple(at(3), at(4), at(5)))
		}
	}
}

// lacking tells what C of the other share must be.
func lacking(width int, s, o api.Share) uint64 {
	a := new(big.Int).Add(bigger(s.A[0]), bigger(o.A[0]))
	b := new(big.Int).Add(bigger(s.B[0]), bigger(o.B[0]))
	return cut(width, a.Mul(a, b).Sub(a, bigger(s.C[0])))
}

// Of drawn shares, and of those of which one bit is turned about.
func TestRightOfDrawnShares(t *testing.T) {
	r := rand.New(rand.NewSource(1))
	for width := 1; width <= 64; width++ {
		for range 20 {
			x := anyNumbers(r, width, 6)
			s, o := triple(x[0], x[1], x[2]), triple(x[3], x[4], x[5])
			isHeld(t, width, s, o)
			o.C[0] = lacking(width, s, o)
			if !scalar.Right(class(width), s, o) {
				t.Fatalf("%x and %x, of %d bits, aren't Right", s, o, width)
			}
			for _, part := range [][]uint64{s.A, s.B, s.C, o.A, o.B, o.C} {
				bit := uint64(1) << r.Intn(width)
				part[0] ^= bit
				isHeld(t, width, s, o)
				part[0] ^= bit
			}
			o.C[0] ^= 1 << (width - 1)
			if scalar.Right(class(width), s, o) {
				t.Fatalf("%x and %x, of %d bits, are Right", s, o, width)
			}
		}
	}
}

// Of another kind nothing is Right, even where the numbers are, nor of a class that may not be.
func TestRightOfOtherClasses(t *testing.T) {
	for _, s := range []api.Share{triple(0, 0, 0), triple(1, 1, 1), {}, {A: []uint64{0}, B: []uint64{0}}} {
		o := triple(0, 0, 0)
		o.C = o.C[:len(s.C)]
		o.A, o.B = o.A[:len(s.A)], o.B[:len(s.B)]
		for _, w := range wrongClasses() {
			if scalar.Right(w.class, s, o) || scalar.Right(w.class, o, s) {
				t.Errorf("%x and %x are Right, of %v", s, o, w.class)
			}
		}
	}
	if !scalar.Right(class(1), triple(1, 1, 1), triple(0, 0, 0)) {
		t.Error("1 times 1 isn't 1")
	}
}

// A number that has more bits isn't cut: the share doesn't fit.
func TestRightOfSharesThatDoNotFit(t *testing.T) {
	for width := 1; width <= 64; width++ {
		for _, part := range wrongParts(width) {
			for which := range 3 {
				s, o := triple(0, 0, 0), triple(0, 0, 0)
				switch which {
				case 0:
					s.A = part
				case 1:
					s.B = part
				default:
					s.C = part
				}
				if scalar.Right(class(width), s, o) || scalar.Right(class(width), o, s) {
					t.Errorf("%x and %x, of %d bits, are Right", s, o, width)
				}
			}
		}
		if !scalar.Right(class(width), triple(0, 0, 0), triple(0, 0, 0)) {
			t.Errorf("0 times 0, of %d bits, isn't 0", width)
		}
	}
	if scalar.Right(class(8), api.Share{}, api.Share{}) {
		t.Error("nothing is Right")
	}
}

// Shares that are drawn have no C yet, and aren't Right.
func TestRightOfWhatIsNotFinished(t *testing.T) {
	l := drawn(t, class(8), 2, newTape(t, make([]uint64, 4)))
	if scalar.Right(class(8), l[0], l[1]) {
		t.Error("drawn shares are Right")
	}
}
