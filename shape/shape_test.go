package shape_test

import (
	"math"
	"testing"

	"trefoil/api"
	"trefoil/shape"
)

func scalar(bits int) api.Class { return api.Class{Kind: api.Scalar, Bits: bits} }
func daBit(bits int) api.Class  { return api.Class{Kind: api.DaBit, Bits: bits} }

func matrix(bits, m, k, n int) api.Class {
	return api.Class{Kind: api.Matrix, Bits: bits, M: m, K: k, N: n}
}

var bit = api.Class{Kind: api.Bit, Bits: 1}

// classes are all that may be, in their order.
func classes() []api.Class {
	var l []api.Class
	for bits := 1; bits <= 64; bits++ {
		l = append(l, scalar(bits))
	}
	for bits := 1; bits <= 64; bits++ {
		for m := 1; m <= 6; m++ {
			for k := 1; k <= 6; k++ {
				for n := 1; n <= 6; n++ {
					l = append(l, matrix(bits, m, k, n))
				}
			}
		}
	}
	l = append(l, bit)
	for bits := 1; bits <= 64; bits++ {
		l = append(l, daBit(bits))
	}
	return l
}

// wrongs are classes that may not be, with their errors: each that may be, with a number of it changed; and some of which several numbers are wrong.
func wrongs() map[api.Class]api.Errno {
	odd := []int{-1, 0, 1, 2, 5, 6, 7, 64, 65, 255, 256, 257, 258, 259, 260, 320, math.MinInt, math.MaxInt, math.MinInt32, math.MaxInt32}
	fine := map[api.Class]bool{}
	for _, c := range classes() {
		fine[c] = true
	}
	found := map[api.Class]api.Errno{}
	note := func(c api.Class) {
		switch {
		case fine[c]:
		case c.Kind < 1 || c.Kind > 4:
			found[c] = api.ErrKind
		default:
			found[c] = api.ErrShape
		}
	}
	for _, x := range odd {
		for c := range fine {
			if c.Kind == api.Matrix && c.Bits%9 != 1 {
				continue
			}
			for _, number := range []*int{&c.Kind, &c.Bits, &c.M, &c.K, &c.N} {
				right := *number
				*number = x
				note(c)
				*number = right
			}
		}
		for _, y := range odd {
			for kind := -1; kind <= 6; kind++ {
				note(api.Class{Kind: kind, Bits: x})
				note(api.Class{Kind: kind, Bits: 1, M: x, K: y, N: 1})
				note(api.Class{Kind: kind, Bits: 8, M: 2, K: x, N: y})
				note(api.Class{Kind: kind, Bits: x, M: y, K: x, N: y})
			}
		}
	}
	return found
}

// P9.1

func TestCheckOfWhatMayBe(t *testing.T) {
	for _, c := range classes() {
		if code := shape.Check(c); code != api.OK {
			t.Errorf("Check of %v is %d", c, code)
		}
	}
}

func TestCheckOfWhatMayNotBe(t *testing.T) {
	codes := map[api.Errno]int{}
	for c, want := range wrongs() {
		if code := shape.Check(c); code != want {
			t.Errorf("Check of %v is %d, not %d", c, code, want)
		}
		codes[want]++
	}
	if codes[api.ErrKind] < 1000 || codes[api.ErrShape] < 1000 {
		t.Errorf("these classes try little: %v", codes)
	}
}

func TestCheckNearTheEdges(t *testing.T) {
	fine := map[api.Class]bool{}
	for _, c := range classes() {
		fine[c] = true
	}
	for kind := -1; kind <= 6; kind++ {
		for bits := -1; bits <= 66; bits++ {
			for side := range 9 * 9 * 9 {
				c := api.Class{Kind: kind, Bits: bits, M: side/81 - 1, K: side/9%9 - 1, N: side%9 - 1}
				code := shape.Check(c)
				switch {
				case fine[c]:
					if code != api.OK {
						t.Fatalf("Check of %v is %d", c, code)
					}
				case kind < 1 || kind > 4:
					if code != api.ErrKind {
						t.Fatalf("Check of %v is %d", c, code)
					}
				case code != api.ErrShape:
					t.Fatalf("Check of %v is %d", c, code)
				}
			}
		}
	}
}

func TestCheckOfSome(t *testing.T) {
	for c, want := range map[api.Class]api.Errno{
		{}:                                       api.ErrKind,
		{Kind: 5}:                                api.ErrKind,
		{Kind: -1, Bits: 8}:                      api.ErrKind,
		{Kind: 5, Bits: 65, M: 7}:                api.ErrKind,
		scalar(0):                                api.ErrShape,
		scalar(1):                                api.OK,
		scalar(64):                               api.OK,
		scalar(65):                               api.ErrShape,
		scalar(-8):                               api.ErrShape,
		daBit(0):                                 api.ErrShape,
		daBit(1):                                 api.OK,
		daBit(65):                                api.ErrShape,
		bit:                                      api.OK,
		{Kind: api.Bit}:                          api.ErrShape,
		{Kind: api.Bit, Bits: 2}:                 api.ErrShape,
		{Kind: api.Bit, Bits: 1, N: 1}:           api.ErrShape,
		{Kind: api.Scalar, Bits: 8, M: 1}:        api.ErrShape,
		{Kind: api.DaBit, Bits: 8, K: 1}:         api.ErrShape,
		{Kind: api.Scalar, Bits: 8, M: 1, K: -1}: api.ErrShape,
		matrix(8, 1, 1, 1):                       api.OK,
		matrix(64, 6, 6, 6):                      api.OK,
		matrix(65, 1, 1, 1):                      api.ErrShape,
		matrix(0, 1, 1, 1):                       api.ErrShape,
		matrix(8, 0, 1, 1):                       api.ErrShape,
		matrix(8, 1, 7, 1):                       api.ErrShape,
		matrix(8, 1, 1, -1):                      api.ErrShape,
		matrix(8, 0, 0, 0):                       api.ErrShape,
	} {
		if code := shape.Check(c); code != want {
			t.Errorf("Check of %v is %d, not %d", c, code, want)
		}
	}
}

// P9.2

// measures is all that the calls of P9.2 tell of a class.
type measures struct {
	sizes, widths [3]int
	transfers     [2]int
	words         int
}

func measured(c api.Class) measures {
	var m measures
	m.sizes[0], m.sizes[1], m.sizes[2] = shape.Sizes(c)
	m.widths[0], m.widths[1], m.widths[2] = shape.Widths(c)
	m.transfers[0], m.transfers[1] = shape.Transfers(c)
	m.words = shape.Words(c)
	return m
}

func TestMeasuresOfSome(t *testing.T) {
	for c, want := range map[api.Class]measures{
		scalar(1):            {[3]int{1, 1, 1}, [3]int{1, 1, 1}, [2]int{1, 1}, 2},
		scalar(32):           {[3]int{1, 1, 1}, [3]int{32, 32, 32}, [2]int{32, 1}, 2},
		scalar(64):           {[3]int{1, 1, 1}, [3]int{64, 64, 64}, [2]int{64, 1}, 2},
		bit:                  {[3]int{1, 1, 1}, [3]int{1, 1, 1}, [2]int{1, 1}, 2},
		daBit(1):             {[3]int{1, 1, 0}, [3]int{1, 1, 1}, [2]int{1, 1}, 1},
		daBit(16):            {[3]int{1, 1, 0}, [3]int{1, 16, 16}, [2]int{1, 1}, 1},
		daBit(64):            {[3]int{1, 1, 0}, [3]int{1, 64, 64}, [2]int{1, 1}, 1},
		matrix(1, 1, 1, 1):   {[3]int{1, 1, 1}, [3]int{1, 1, 1}, [2]int{1, 1}, 2},
		matrix(16, 2, 3, 4):  {[3]int{6, 12, 8}, [3]int{16, 16, 16}, [2]int{96, 4}, 18},
		matrix(8, 6, 1, 3):   {[3]int{6, 3, 18}, [3]int{8, 8, 8}, [2]int{48, 3}, 9},
		matrix(64, 6, 6, 6):  {[3]int{36, 36, 36}, [3]int{64, 64, 64}, [2]int{2304, 6}, 72},
		matrix(5, 1, 5, 2):   {[3]int{5, 10, 2}, [3]int{5, 5, 5}, [2]int{25, 2}, 15},
		matrix(64, 7, 1, 1):  {},
		matrix(65, 1, 1, 1):  {},
		matrix(8, -2, -3, 1): {},
		scalar(0):            {},
		scalar(65):           {},
		daBit(65):            {},
		{}:                   {},
	} {
		if got := measured(c); got != want {
			t.Errorf("of %v: %v, not %v", c, got, want)
		}
	}
}

func TestMeasuresOfAll(t *testing.T) {
	for _, c := range classes() {
		want := measures{[3]int{1, 1, 1}, [3]int{c.Bits, c.Bits, c.Bits}, [2]int{1, 1}, 2}
		switch c.Kind {
		case api.Scalar:
			want.transfers = [2]int{c.Bits, 1}
		case api.Matrix:
			want.sizes = [3]int{c.M * c.K, c.K * c.N, c.M * c.N}
			want.transfers = [2]int{c.M * c.K * c.Bits, c.N}
			want.words = c.M*c.K + c.K*c.N
		case api.DaBit:
			want.sizes[2], want.widths[0], want.words = 0, 1, 1
		}
		if got := measured(c); got != want {
			t.Errorf("of %v: %v, not %v", c, got, want)
		}
	}
}

func TestMeasuresOfWhatMayNotBe(t *testing.T) {
	for c := range wrongs() {
		if got := measured(c); got != (measures{}) {
			t.Errorf("of %v: %v", c, got)
		}
	}
}

// P9.3

// filled is a part of so many numbers, each of which has all of so many bits.
func filled(size, width int) []uint64 {
	l := make([]uint64, size)
	for i := range l {
		l[i] = math.MaxUint64 >> (64 - width)
	}
	return l
}

// greatest is the share of a class of which no number may have more.
func greatest(c api.Class) api.Share {
	m := measured(c)
	return api.Share{A: filled(m.sizes[0], m.widths[0]), B: filled(m.sizes[1], m.widths[1]), C: filled(m.sizes[2], m.widths[2])}
}

func TestFits(t *testing.T) {
	for _, c := range classes() {
		s := greatest(c)
		if !shape.Fits(c, s) {
			t.Fatalf("%v doesn't fit %v", s, c)
		}
		for i := range 3 {
			for _, l := range []*[]uint64{&s.A, &s.B, &s.C} {
				clear((*l)[:min(i, len(*l))])
			}
			if !shape.Fits(c, s) {
				t.Fatalf("%v doesn't fit %v", s, c)
			}
		}
	}
	if !shape.Fits(daBit(8), api.Share{A: []uint64{1}, B: []uint64{255}, C: []uint64{}}) {
		t.Error("an empty C is not like none")
	}
}

func TestTooManyOrFewDontFit(t *testing.T) {
	for _, c := range classes() {
		s := greatest(c)
		for name, l := range map[string]*[]uint64{"A": &s.A, "B": &s.B, "C": &s.C} {
			whole := *l
			for _, other := range [][]uint64{append(whole[:len(whole):len(whole)], 0), make([]uint64, len(whole)+40), nil, whole[:max(len(whole)-1, 0)]} {
				if len(other) == len(whole) {
					continue
				}
				if *l = other; shape.Fits(c, s) {
					t.Errorf("with %d numbers of %s a share fits %v", len(other), name, c)
				}
			}
			*l = whole
		}
		if shape.Fits(c, api.Share{}) {
			t.Errorf("nothing fits %v", c)
		}
	}
}

func TestTooGreatDontFit(t *testing.T) {
	for _, c := range classes() {
		s, m := greatest(c), measured(c)
		for part, l := range [][]uint64{s.A, s.B, s.C} {
			for i, x := range l {
				for _, above := range []int{m.widths[part], 63} {
					if above >= 64 || x>>above != 0 {
						continue
					}
					for _, y := range []uint64{1 << above, x | 1<<above} {
						if l[i] = y; shape.Fits(c, s) {
							t.Fatalf("%d in place %d of part %d fits %v", y, i, part, c)
						}
					}
				}
				l[i] = x
			}
		}
	}
}

func TestNothingFitsWhatMayNotBe(t *testing.T) {
	for c := range wrongs() {
		shares := []api.Share{{}, {A: []uint64{0}, B: []uint64{0}}, {A: []uint64{0}, B: []uint64{0}, C: []uint64{0}}}
		if side := func(n int) bool { return n > 0 && n <= 16 }; side(c.M) && side(c.K) && side(c.N) {
			shares = append(shares, api.Share{A: make([]uint64, c.M*c.K), B: make([]uint64, c.K*c.N), C: make([]uint64, c.M*c.N)})
		}
		for _, s := range shares {
			if shape.Fits(c, s) {
				t.Errorf("%v fits %v", s, c)
			}
		}
	}
}

func TestFitsChangesNothing(t *testing.T) {
	c := matrix(8, 1, 2, 1)
	room := []uint64{1, 2, 256, 4}
	s := api.Share{A: room[:2], B: room[1:3], C: room[3:]}
	if shape.Fits(c, s) || room[0] != 1 || room[1] != 2 || room[2] != 256 || room[3] != 4 {
		t.Errorf("the share is %v, in %v", s, room)
	}
}
