package gilboa_test

import (
	"math/rand"
	"slices"
	"testing"

	"trefoil/api"
	"trefoil/bits"
	"trefoil/cot"
	"trefoil/gilboa"
	"trefoil/rot"
)

// P21.5

// sum tells what two lists of shares come to.
func sum(t *testing.T, width int, a, b []uint64) []uint64 {
	t.Helper()
	l, code := cot.Open(width, a, b)
	if code != api.OK {
		t.Fatal(code)
	}
	return l
}

// split draws shares of what was spread, where the choice is 1, and of 0 else.
func split(r *rand.Rand, width, n int, spread []uint64, choices bits.Vec) (a, b []uint64) {
	a, b = anyNumbers(r, width, len(spread)), make([]uint64, len(spread))
	for at, x := range spread {
		if choices.Get(at / n) {
			b[at] += x
		}
		b[at] = (b[at] - a[at]) & greatest(width)
	}
	return a, b
}

func TestFoldedSharesComeToProducts(t *testing.T) {
	r := rand.New(rand.NewSource(1))
	for width := 1; width <= 64; width++ {
		for n := 1; n <= 6; n++ {
			for _, count := range []int{0, 1, 2, 5} {
				as, rows := anyNumbers(r, width, count), anyNumbers(r, width, n*count)
				a, b := split(r, width, n, spread(t, width, n, rows), chosen(t, width, as))
				got := sum(t, width, folded(t, width, n, a), folded(t, width, n, b))
				if want := multiplied(t, width, n, as, rows); !slices.Equal(got, want) {
					t.Fatalf("shares of %x times %x, of %d bits, come to %x, not to %x", as, rows, width, got, want)
				}
			}
		}
	}
}

// All pairs of small numbers.
func TestAllSmallProducts(t *testing.T) {
	r := rand.New(rand.NewSource(2))
	for width := 1; width <= 5; width++ {
		for x := range uint64(1) << width {
			for y := range uint64(1) << width {
				a, b := split(r, width, 1, spread(t, width, 1, []uint64{y}), chosen(t, width, []uint64{x}))
				got := sum(t, width, folded(t, width, 1, a), folded(t, width, 1, b))
				if got[0] != x*y%(1<<width) {
					t.Errorf("shares of %d times %d, of %d bits, come to %d", x, y, width, got[0])
				}
			}
		}
	}
}

func anyPairs(r *rand.Rand, n int) []rot.Pair {
	l := make([]rot.Pair, n)
	for i := range l {
		r.Read(l[i].Zero[:])
		r.Read(l[i].One[:])
	}
	return l
}

func picked(pairs []rot.Pair, choices bits.Vec) []api.Seed {
	l := make([]api.Seed, len(pairs))
	for j, pair := range pairs {
		l[j] = pair.Zero
		if choices.Get(j) {
			l[j] = pair.One
		}
	}
	return l
}

// With shares that transfers made.
func TestTransfersMakeProducts(t *testing.T) {
	r := rand.New(rand.NewSource(3))
	for width := 1; width <= 64; width++ {
		for _, n := range []int{1, 2, 6} {
			as, rows := anyNumbers(r, width, 3), anyNumbers(r, width, 3*n)
			choices := chosen(t, width, as)
			pairs := anyPairs(r, 3*width)
			fix, mine, code := cot.Send(width, n, pairs, spread(t, width, n, rows))
			if code != api.OK {
				t.Fatal(code)
			}
			yours, code := cot.Receive(width, n, picked(pairs, choices), choices, fix)
			if code != api.OK {
				t.Fatal(code)
			}
			got := sum(t, width, folded(t, width, n, mine), folded(t, width, n, yours))
			if want := multiplied(t, width, n, as, rows); !slices.Equal(got, want) {
				t.Fatalf("transfers of %x times %x, of %d bits, come to %x, not to %x", as, rows, width, got, want)
			}
		}
	}
}

// Rules that hold everywhere: whose memory is whose.

func TestWhatIsHandedInIsNotChanged(t *testing.T) {
	r := rand.New(rand.NewSource(4))
	as, rows := anyNumbers(r, 20, 12), anyNumbers(r, 20, 130)
	ownAs, ownRows := slices.Clone(as), slices.Clone(rows)
	for _, width := range []int{20, 19, 1, 0} { // with an error, too
		for _, n := range []int{1, 2, 3, 6, 7} {
			gilboa.Choices(width, ownAs[:10])
			gilboa.Spread(width, n, ownRows[:30])
			gilboa.Fold(width, n, ownRows[:120]) // room behind them must stay as it is
			gilboa.Rows(width, n, ownAs[:10], ownRows[:10*n])
		}
	}
	if !slices.Equal(ownAs, as) || !slices.Equal(ownRows, rows) {
		t.Error("what was handed in was changed")
	}
}

// spoil changes a list, and its spare room.
func spoil(l []uint64) {
	l = l[:cap(l)]
	for i := range l {
		l[i] = 12345
	}
}

// Of one bit Spread and Fold tell what they were handed, and of the factor 1 Rows does: in new memory, too.
func TestAnswersAreNewMemory(t *testing.T) {
	r := rand.New(rand.NewSource(5))
	for _, width := range []int{1, 20} {
		as := slices.Repeat([]uint64{1}, 2*width)
		rows := anyNumbers(r, width, 6*width)
		for name, call := range map[string]func() []uint64{
			"Spread": func() []uint64 { return spread(t, width, 3, rows) },
			"Fold":   func() []uint64 { return folded(t, width, 3, rows) },
			"Rows":   func() []uint64 { return multiplied(t, width, 3, as, rows) },
		} {
			wantAs, wantRows, first := slices.Clone(as), slices.Clone(rows), call()
			want := slices.Clone(first)
			spoil(call())
			if !slices.Equal(as, wantAs) || !slices.Equal(rows, wantRows) {
				t.Errorf("%s tells what was handed in", name)
			}
			if !slices.Equal(first, want) || !slices.Equal(call(), want) {
				t.Errorf("%s tells an earlier answer's memory", name)
			}
			spoil(rows)
			if !slices.Equal(first, want) {
				t.Errorf("%s tells what was handed in", name)
			}
			copy(rows, wantRows)
		}
		v := chosen(t, width, as)
		raw, want := v.Raw(), slices.Clone(v.Raw())
		spoil(raw)
		spoil(as)
		if !slices.Equal(v.Raw(), want) {
			t.Error("choices share memory")
		}
	}
}
