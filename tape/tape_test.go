package tape_test

import (
	"encoding/binary"
	"errors"
	"math"
	"math/rand"
	"slices"
	"testing"

	"trefoil/api"
	"trefoil/fault"
	"trefoil/tape"
)

func newTape(t *testing.T, l []uint64) *tape.Tape {
	t.Helper()
	x, err := tape.New(l)
	if err != nil || x == nil {
		t.Fatalf("New of %d words: %v, %v", len(l), x, err)
	}
	return x
}

func someWords(r *rand.Rand, n int) []uint64 {
	l := make([]uint64, n)
	for i := range l {
		l[i] = r.Uint64()
	}
	return l
}

// is tells whether an error has a number, and no other one, by fault.Code and by errors.Is.
func is(err error, code api.Errno) bool {
	if code == api.OK {
		return err == nil
	}
	for other := api.OK; other <= api.ErrEnd; other++ {
		if errors.Is(err, other) != (other == code) {
			return false
		}
	}
	return fault.Code(err) == code && slices.Equal(fault.Codes(err), []api.Errno{code})
}

// stands asks how far a tape is read, and how much is left.
func stands(t *testing.T, x *tape.Tape, at, left int) {
	t.Helper()
	if x.At() != at || x.Left() != left {
		t.Fatalf("At and Left are %d and %d, not %d and %d", x.At(), x.Left(), at, left)
	}
}

func take(t *testing.T, x *tape.Tape, n int, want ...uint64) {
	t.Helper()
	l, err := x.Take(n)
	if err != nil || !slices.Equal(l, want) {
		t.Fatalf("Take(%d) is %d, %v, not %d", n, l, err, want)
	}
}

func next(t *testing.T, x *tape.Tape, want uint64) {
	t.Helper()
	if word, err := x.Next(); err != nil || word != want {
		t.Fatalf("Next is %d, %v, not %d", word, err, want)
	}
}

// refuse makes wrong calls of every kind, and such as ask for more than is left, and looks whether nothing was read.
func refuse(t *testing.T, x *tape.Tape) {
	t.Helper()
	at, left := x.At(), x.Left()
	for _, c := range []struct {
		n    int
		code api.Errno
	}{{-1, api.ErrArg}, {math.MinInt, api.ErrArg}, {left + 1, api.ErrTape}, {at + left + 1, api.ErrTape}, {math.MaxInt, api.ErrTape}} {
		if l, err := x.Take(c.n); !is(err, c.code) || len(l) != 0 {
			t.Errorf("Take(%d) with %d left is %d, %v", c.n, left, l, err)
		}
		if l, err := x.Numbers(c.n, 8); !is(err, c.code) || len(l) != 0 {
			t.Errorf("Numbers(%d, 8) with %d left is %d, %v", c.n, left, l, err)
		}
		if l, err := x.Bits(c.n); !is(err, c.code) || len(l) != 0 {
			t.Errorf("Bits(%d) with %d left is %v, %v", c.n, left, l, err)
		}
		for _, bits := range []int{0, -1, 65, math.MinInt, math.MaxInt} {
			if l, err := x.Numbers(c.n, bits); !is(err, api.ErrShape) || len(l) != 0 {
				t.Errorf("Numbers(%d, %d) is %d, %v", c.n, bits, l, err)
			}
		}
	}
	for _, to := range []int{at - 1, -1, math.MinInt} {
		if err := x.Skip(to); !is(err, api.ErrArg) {
			t.Errorf("Skip(%d) at %d is %v", to, at, err)
		}
	}
	for _, to := range []int{at + left + 1, math.MaxInt} {
		if err := x.Skip(to); !is(err, api.ErrTape) {
			t.Errorf("Skip(%d) of %d words is %v", to, at+left, err)
		}
	}
	if left < 1 {
		if word, err := x.Next(); !is(err, api.ErrTape) || word != 0 {
			t.Errorf("Next at the end is %d, %v", word, err)
		}
	}
	if left < 4 {
		if seed, err := x.Seed(); !is(err, api.ErrTape) || seed != (api.Seed{}) {
			t.Errorf("Seed with %d left is %x, %v", left, seed, err)
		}
	}
	stands(t, x, at, left)
}

// P6.1

func TestNew(t *testing.T) {
	for _, n := range []int{0, 1, 3, 1000, api.MaxTape} {
		l := someWords(rand.New(rand.NewSource(int64(n))), n)
		x := newTape(t, l)
		stands(t, x, 0, n)
		take(t, x, n, l...)
		stands(t, x, n, 0)
	}
	stands(t, newTape(t, nil), 0, 0)
}

func TestNewOfTooMany(t *testing.T) {
	for _, n := range []int{api.MaxTape + 1, 2 * api.MaxTape} {
		if x, err := tape.New(make([]uint64, n)); !is(err, api.ErrLimit) || x != nil {
			t.Errorf("New of %d words is %v, %v", n, x, err)
		}
	}
}

func TestAtAndLeft(t *testing.T) {
	x := newTape(t, someWords(rand.New(rand.NewSource(1)), 20))
	x.Next()
	stands(t, x, 1, 19)
	x.Take(3)
	stands(t, x, 4, 16)
	x.Seed()
	stands(t, x, 8, 12)
	x.Numbers(2, 5)
	stands(t, x, 10, 10)
	x.Bits(3)
	stands(t, x, 13, 7)
	x.Skip(18)
	stands(t, x, 18, 2)
	x.Take(0)
	x.Numbers(0, 1)
	x.Bits(0)
	x.Skip(18)
	stands(t, x, 18, 2)
}

// P6.2

func TestExample(t *testing.T) {
	x := newTape(t, []uint64{5, 6, 7})
	take(t, x, 2, 5, 6)
	if l, err := x.Take(2); !is(err, api.ErrTape) || len(l) != 0 {
		t.Errorf("Take(2) of one is %d, %v", l, err)
	}
	stands(t, x, 2, 1)
	next(t, x, 7)
	refuse(t, x)
}

func TestTake(t *testing.T) {
	x := newTape(t, []uint64{math.MaxUint64, 0, 1 << 63, 4, 5, 6})
	refuse(t, x)
	take(t, x, 0)
	take(t, x, 1, math.MaxUint64)
	refuse(t, x)
	take(t, x, 3, 0, 1<<63, 4)
	take(t, x, 0)
	refuse(t, x)
	take(t, x, 2, 5, 6)
	refuse(t, x)
	take(t, x, 0)
	stands(t, x, 6, 0)
}

func TestNext(t *testing.T) {
	l := []uint64{math.MaxUint64, 0, 1 << 63, 4}
	x := newTape(t, l)
	for i, word := range l {
		next(t, x, word)
		stands(t, x, i+1, len(l)-i-1)
	}
	refuse(t, x)
}

func TestSkip(t *testing.T) {
	x := newTape(t, []uint64{10, 11, 12, 13, 14, 15, 16})
	for _, c := range []struct{ to, left int }{{0, 7}, {1, 6}, {1, 6}, {3, 4}} {
		if err := x.Skip(c.to); err != nil {
			t.Fatalf("Skip(%d) is %v", c.to, err)
		}
		stands(t, x, c.to, c.left)
		refuse(t, x)
	}
	next(t, x, 13)
	if err := x.Skip(3); !is(err, api.ErrArg) {
		t.Errorf("Skip to what was passed is %v", err)
	}
	if err := x.Skip(6); err != nil {
		t.Errorf("Skip(6) is %v", err)
	}
	next(t, x, 16)
	if err := x.Skip(7); err != nil {
		t.Errorf("Skip to the end, at the end, is %v", err)
	}
	refuse(t, x)
}

func TestSkipToTheEnd(t *testing.T) {
	x := newTape(t, []uint64{1, 2})
	if err := x.Skip(2); err != nil {
		t.Errorf("Skip(2) of two is %v", err)
	}
	stands(t, x, 2, 0)
	refuse(t, x)
}

func TestTapeWithoutWords(t *testing.T) {
	for _, l := range [][]uint64{nil, {}} {
		x := newTape(t, l)
		take(t, x, 0)
		if err := x.Skip(0); err != nil {
			t.Errorf("Skip(0) of no words is %v", err)
		}
		if l, err := x.Numbers(0, 64); err != nil || len(l) != 0 {
			t.Errorf("Numbers(0, 64) of no words is %d, %v", l, err)
		}
		if l, err := x.Bits(0); err != nil || len(l) != 0 {
			t.Errorf("Bits(0) of no words is %v, %v", l, err)
		}
		refuse(t, x)
	}
}

// P6.3

func TestNumbersOfEachWidth(t *testing.T) {
	l := append(someWords(rand.New(rand.NewSource(2)), 40), 0, math.MaxUint64, 1, 1<<63)
	for bits := 1; bits <= api.MaxBits; bits++ {
		x := newTape(t, l)
		got, err := x.Numbers(len(l), bits)
		if err != nil || len(got) != len(l) {
			t.Fatalf("Numbers(%d, %d) is %d, %v", len(l), bits, got, err)
		}
		for i, number := range got {
			low := l[i]
			if bits < 64 {
				low %= 1 << bits
			}
			if number != low {
				t.Fatalf("of %x the lowest %d bits are %x, not %x", l[i], bits, number, low)
			}
		}
		stands(t, x, len(l), 0)
	}
}

func TestNumbersGoOn(t *testing.T) {
	x := newTape(t, []uint64{0x1ff, 0x2fe, 0x3fd, 0x4fc})
	next(t, x, 0x1ff)
	if l, err := x.Numbers(2, 8); err != nil || !slices.Equal(l, []uint64{0xfe, 0xfd}) {
		t.Errorf("Numbers(2, 8) is %x, %v", l, err)
	}
	next(t, x, 0x4fc)
}

func TestBits(t *testing.T) {
	x := newTape(t, []uint64{0, 1, 2, 3, 1 << 63, math.MaxUint64, math.MaxUint64 - 1, 9})
	if l, err := x.Bits(3); err != nil || !slices.Equal(l, []bool{false, true, false}) {
		t.Errorf("Bits(3) is %v, %v", l, err)
	}
	stands(t, x, 3, 5)
	refuse(t, x)
	if l, err := x.Bits(4); err != nil || !slices.Equal(l, []bool{true, false, true, false}) {
		t.Errorf("Bits(4) is %v, %v", l, err)
	}
	next(t, x, 9)
}

func TestSeed(t *testing.T) {
	l := []uint64{0x0706050403020100, 0x0f0e0d0c0b0a0908, 0x1716151413121110, 0x1f1e1d1c1b1a1918, 1, 2, 3}
	x := newTape(t, l)
	seed, err := x.Seed()
	for i := range seed {
		if seed[i] != byte(i) || err != nil {
			t.Fatalf("Seed is %x, %v", seed, err)
		}
	}
	stands(t, x, 4, 3)
	refuse(t, x)
	next(t, x, 1)
}

func TestSeedOfTheLastWords(t *testing.T) {
	x := newTape(t, []uint64{7, 0x80, 1 << 63, 0, math.MaxUint64})
	next(t, x, 7)
	want := api.Seed{0: 0x80, 15: 0x80}
	for i := 24; i < 32; i++ {
		want[i] = 0xff
	}
	if seed, err := x.Seed(); err != nil || seed != want {
		t.Errorf("Seed is %x, %v, not %x", seed, err, want)
	}
	refuse(t, x)
}

// P6.4, and all others: calls at a tape and at a list.

// call is one call of a tape, told by numbers.
type call struct{ kind, n, bits int }

// answer is what a call tells: Bits and Seed as words, too.
type answer struct {
	words []uint64
	code  api.Errno
}

const kinds = 6

func anyCall(r *rand.Rand, size int) call {
	return call{r.Intn(kinds), r.Intn(size) - 1, r.Intn(67) - 1}
}

func do(x *tape.Tape, c call) answer {
	var l []uint64
	var err error
	switch c.kind {
	case 0:
		l, err = x.Take(c.n)
	case 1:
		var word uint64
		word, err = x.Next()
		l = []uint64{word}
	case 2:
		l, err = x.Numbers(c.n, c.bits)
	case 3:
		var truths []bool
		truths, err = x.Bits(c.n)
		for _, b := range truths {
			l = append(l, map[bool]uint64{true: 1}[b])
		}
	case 4:
		var seed api.Seed
		seed, err = x.Seed()
		for i := range 4 {
			l = append(l, binary.LittleEndian.Uint64(seed[8*i:]))
		}
	case 5:
		err = x.Skip(x.At() + c.n)
	}
	return answer{l, fault.Code(err)}
}

// slow says of a list, and a place in it, what a call is to tell, and the place behind it.
func slow(l []uint64, at int, c call) (answer, int) {
	n, bits, zeros := c.n, 64, 0
	switch c.kind {
	case 1:
		n, zeros = 1, 1
	case 2:
		bits = c.bits
	case 3:
		bits = 1
	case 4:
		n, zeros = 4, 4
	}
	code := api.OK
	switch {
	case bits < 1 || bits > 64:
		code = api.ErrShape
	case n < 0:
		code = api.ErrArg
	case at+n > len(l):
		code = api.ErrTape
	}
	if code != api.OK {
		return answer{make([]uint64, zeros), code}, at
	}
	var words []uint64
	for _, word := range l[at : at+n] {
		if c.kind != 5 {
			words = append(words, word<<(64-bits)>>(64-bits))
		}
	}
	return answer{words, api.OK}, at + n
}

func TestCallsAgainstAList(t *testing.T) {
	r := rand.New(rand.NewSource(3))
	for range 2000 {
		l := someWords(r, r.Intn(60))
		x, at := newTape(t, l), 0
		for range 30 {
			c := anyCall(r, 12)
			got := do(x, c)
			want, then := slow(l, at, c)
			if got.code != want.code || !slices.Equal(got.words, want.words) || x.At() != then {
				t.Fatalf("at %d of %d words: %v is %v, not %v; it is at %d then", at, len(l), c, got, want, x.At())
			}
			at = then
		}
	}
}

func TestSeveralCallsReadWhatOneReads(t *testing.T) {
	r := rand.New(rand.NewSource(4))
	for range 300 {
		l := someWords(r, r.Intn(50))
		for _, c := range []call{{0, 0, 0}, {2, 0, 1 + r.Intn(64)}, {3, 0, 0}} {
			c.n = len(l)
			whole := do(newTape(t, l), c)
			if whole.code != api.OK {
				t.Fatalf("%v of %d words: %d", c, len(l), whole.code)
			}
			var parts []uint64
			for x := newTape(t, l); x.Left() > 0; {
				c.n = r.Intn(x.Left() + 1)
				parts = append(parts, do(x, c).words...)
			}
			if !slices.Equal(parts, whole.words) {
				t.Fatalf("parts are %x, the whole is %x", parts, whole.words)
			}
		}
	}
}

func TestHowFarHangsOnCallsAlone(t *testing.T) {
	r := rand.New(rand.NewSource(5))
	for range 300 {
		n := r.Intn(50)
		ones := make([]uint64, n)
		for i := range ones {
			ones[i] = math.MaxUint64
		}
		tapes := []*tape.Tape{newTape(t, make([]uint64, n)), newTape(t, ones), newTape(t, someWords(r, n))}
		for range 30 {
			c := anyCall(r, 8)
			first := do(tapes[0], c)
			for _, x := range tapes[1:] {
				if other := do(x, c); other.code != first.code || len(other.words) != len(first.words) || x.At() != tapes[0].At() {
					t.Fatalf("%v hangs on the words: %v at %d, %v at %d", c, first, tapes[0].At(), other, x.At())
				}
			}
		}
	}
}

// The rules: what is nil, and memory.

func TestNilAndWhatNoCallMade(t *testing.T) {
	for _, x := range []*tape.Tape{nil, {}, new(tape.Tape)} {
		for _, n := range []int{0, 1, -1, math.MinInt, math.MaxInt} {
			if l, err := x.Take(n); !is(err, api.ErrNil) || len(l) != 0 {
				t.Errorf("Take(%d) is %d, %v", n, l, err)
			}
			for _, bits := range []int{1, 64} {
				if l, err := x.Numbers(n, bits); !is(err, api.ErrNil) || len(l) != 0 {
					t.Errorf("Numbers(%d, %d) is %d, %v", n, bits, l, err)
				}
			}
			for _, bits := range []int{0, 65, -1, math.MinInt, math.MaxInt} {
				if l, err := x.Numbers(n, bits); !is(err, api.ErrShape) || len(l) != 0 {
					t.Errorf("Numbers(%d, %d) is %d, %v", n, bits, l, err)
				}
			}
			if l, err := x.Bits(n); !is(err, api.ErrNil) || len(l) != 0 {
				t.Errorf("Bits(%d) is %v, %v", n, l, err)
			}
			if err := x.Skip(n); !is(err, api.ErrNil) {
				t.Errorf("Skip(%d) is %v", n, err)
			}
		}
		if word, err := x.Next(); !is(err, api.ErrNil) || word != 0 {
			t.Errorf("Next is %d, %v", word, err)
		}
		if seed, err := x.Seed(); !is(err, api.ErrNil) || seed != (api.Seed{}) {
			t.Errorf("Seed is %x, %v", seed, err)
		}
		stands(t, x, 0, 0)
	}
}

func TestWhatIsHandedInIsNotKept(t *testing.T) {
	room := []uint64{1, 2, 3, 4, 5, 6, 7, 8}
	x := newTape(t, room[:6])
	x.Numbers(2, 1)
	x.Take(1)
	if !slices.Equal(room, []uint64{1, 2, 3, 4, 5, 6, 7, 8}) {
		t.Errorf("what was handed in is %d then", room)
	}
	clear(room)
	take(t, x, 3, 4, 5, 6)
	refuse(t, x)
}

func TestAnswersAreNewMemory(t *testing.T) {
	x := newTape(t, []uint64{1, 2, 3, 4, 5, 6})
	first, _ := x.Take(2)
	second, _ := x.Numbers(2, 64)
	spoil(first)
	if !slices.Equal(second, []uint64{3, 4}) {
		t.Errorf("an answer changes another one: %d", second)
	}
	spoil(second)
	if !slices.Equal(first, []uint64{99, 99}) {
		t.Errorf("an answer changes another one: %d", first)
	}
	take(t, x, 2, 5, 6)
}

// spoil overwrites a list, and the room behind it.
func spoil(l []uint64) {
	whole := l[:cap(l)]
	for i := range whole {
		whole[i] = 99
	}
}

func TestTapesOfOneList(t *testing.T) {
	l := []uint64{1, 2, 3}
	a, b := newTape(t, l), newTape(t, l)
	take(t, a, 2, 1, 2)
	stands(t, b, 0, 3)
	take(t, b, 3, 1, 2, 3)
	next(t, a, 3)
}
