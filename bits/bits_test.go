package bits_test

import (
	"math"
	"math/rand"
	"reflect"
	"slices"
	"strings"
	"testing"

	"trefoil/api"
	"trefoil/bits"
)

const most = 64 * api.MaxWords

// sizes are those about the ends of bytes and of words.
var sizes = []int{0, 1, 2, 7, 8, 9, 31, 32, 33, 63, 64, 65, 127, 128, 129, 191, 192, 193, 200, 640, 1000}

// wrongSizes are those that New, Words and Read refuse.
var wrongSizes = []int{-1, -64, math.MinInt, most + 1, most + 64, math.MaxInt - 63, math.MaxInt}

// truths makes n truths; the same n and salt make the same.
func truths(n int, salt int64) []bool {
	r := rand.New(rand.NewSource(int64(n)*1000 + salt))
	l := make([]bool, n)
	for i := range l {
		l[i] = r.Intn(2) == 1
	}
	return l
}

func all(n int, b bool) []bool {
	l := make([]bool, n)
	for i := range l {
		l[i] = b
	}
	return l
}

// samples are truths of one size: none, all, and mixed ones.
func samples(n int) [][]bool {
	return [][]bool{all(n, false), all(n, true), truths(n, 1), truths(n, 2)}
}

// packWords lays truths into words one by one, as the chapter says what a Vec's words are.
func packWords(l []bool) []uint64 {
	out := make([]uint64, (len(l)+63)/64)
	for i, b := range l {
		if b {
			out[i/64] += 1 << (i % 64)
		}
	}
	return out
}

// packBytes lays truths into bytes one by one.
func packBytes(l []bool) string {
	out := make([]byte, (len(l)+7)/8)
	for i, b := range l {
		if b {
			out[i/8] += 1 << (i % 8)
		}
	}
	return string(out)
}

func countTrue(l []bool) int {
	n := 0
	for _, b := range l {
		if b {
			n++
		}
	}
	return n
}

// must takes what Of makes of truths that are allowed.
func must(t *testing.T, l []bool) bits.Vec {
	t.Helper()
	v, code := bits.Of(l)
	if code != api.OK {
		t.Fatalf("Of %d truths: %d", len(l), code)
	}
	return v
}

// same checks all that a Vec tells against the truths that it is to hold.
func same(t *testing.T, name string, v bits.Vec, code api.Errno, want []bool) {
	t.Helper()
	if code != api.OK {
		t.Errorf("%s: error %d", name, code)
		return
	}
	if v.Len() != len(want) {
		t.Errorf("%s: Len is %d, not %d", name, v.Len(), len(want))
		return
	}
	if got := v.Bools(); !slices.Equal(got, want) {
		t.Errorf("%s: Bools differ", name)
	}
	if got := v.Raw(); !slices.Equal(got, packWords(want)) {
		t.Errorf("%s: Raw differs: %x", name, head(got))
	}
	if got := v.Bytes(); got != packBytes(want) {
		t.Errorf("%s: Bytes differ", name)
	}
	if got := v.Count(); got != countTrue(want) {
		t.Errorf("%s: Count is %d, not %d", name, got, countTrue(want))
	}
	if got := v.Odd(); got != (countTrue(want)%2 == 1) {
		t.Errorf("%s: Odd is %v", name, got)
	}
	for _, i := range []int{0, 1, 62, 63, 64, 65, len(want) / 2, len(want) - 2, len(want) - 1} {
		if i >= 0 && i < len(want) && v.Get(i) != want[i] {
			t.Errorf("%s: Get(%d) is %v", name, i, v.Get(i))
		}
	}
	for _, i := range []int{len(want), len(want) + 1, len(want) + 64, -1, -64, math.MinInt, math.MaxInt} {
		if v.Get(i) {
			t.Errorf("%s: Get(%d) is true, where there is no bit", name, i)
		}
	}
}

func head(l []uint64) []uint64 { return l[:min(len(l), 4)] }

// refused checks that a call answered that error, and no bits beside it.
func refused(t *testing.T, name string, v bits.Vec, code, want api.Errno) {
	t.Helper()
	if code != want {
		t.Errorf("%s: error %d, not %d", name, code, want)
	}
	if v.Len() != 0 || len(v.Raw()) != 0 || !reflect.DeepEqual(v, bits.Vec{}) {
		t.Errorf("%s: bits beside an error", name)
	}
}

// P2.1

func TestNew(t *testing.T) {
	for _, n := range append(slices.Clone(sizes), most-1, most) {
		v, code := bits.New(n)
		same(t, "New", v, code, all(n, false))
	}
	for _, n := range wrongSizes {
		v, code := bits.New(n)
		refused(t, "New", v, code, api.ErrLimit)
	}
}

func TestOf(t *testing.T) {
	for _, n := range sizes {
		for _, l := range samples(n) {
			v, code := bits.Of(l)
			same(t, "Of", v, code, l)
		}
	}
	l := truths(most+1, 1)
	v, code := bits.Of(l[:most])
	same(t, "Of as many as may be", v, code, l[:most])
	v, code = bits.Of(l)
	refused(t, "Of one more", v, code, api.ErrLimit)
	v, code = bits.Of(nil)
	same(t, "Of nil", v, code, nil)
}

func TestWords(t *testing.T) {
	for _, n := range sizes {
		for _, l := range samples(n) {
			v, code := bits.Words(n, packWords(l))
			same(t, "Words", v, code, l)
		}
	}
	l := truths(most, 1)
	v, code := bits.Words(most, packWords(l))
	same(t, "Words as many as may be", v, code, l)
	v, code = bits.Words(0, nil)
	same(t, "Words of nil", v, code, nil)
	v, code = bits.Words(0, []uint64{})
	same(t, "Words of an empty list", v, code, nil)
}

func TestWordsLeavesOutWhatIsBehind(t *testing.T) {
	full := slices.Repeat([]uint64{math.MaxUint64}, 20)
	for _, n := range sizes {
		v, code := bits.Words(n, full[:(n+63)/64])
		same(t, "Words of full words", v, code, all(n, true))
	}
	v, code := bits.Words(most-1, slices.Repeat(full[:1], api.MaxWords))
	same(t, "Words of full words, one fewer than may be", v, code, all(most-1, true))
}

func TestWordsRefuses(t *testing.T) {
	for _, n := range wrongSizes {
		for _, l := range [][]uint64{nil, {1}, make([]uint64, api.MaxWords), make([]uint64, api.MaxWords+1)} {
			v, code := bits.Words(n, l)
			refused(t, "Words of a wrong number", v, code, api.ErrLimit)
		}
	}
	for _, n := range append(slices.Clone(sizes), most) {
		need := (n + 63) / 64
		for _, k := range []int{0, need - 1, need + 1, need + 2} {
			if k >= 0 && k != need {
				v, code := bits.Words(n, make([]uint64, k))
				refused(t, "Words of too few or too many", v, code, api.ErrShape)
			}
		}
	}
}

// P2.2

func TestGet(t *testing.T) {
	l := truths(200, 7)
	v := must(t, l)
	for i, b := range l {
		if v.Get(i) != b {
			t.Errorf("Get(%d) is %v", i, !b)
		}
	}
}

func TestWith(t *testing.T) {
	for _, n := range []int{1, 63, 64, 65, 130} {
		for _, l := range samples(n) {
			v := must(t, l)
			for i := range n {
				for _, b := range []bool{false, true} {
					want := slices.Clone(l)
					want[i] = b
					w, code := v.With(i, b)
					same(t, "With", w, code, want)
				}
			}
			same(t, "what With was asked of", v, api.OK, l)
		}
	}
	v := must(t, all(most, false))
	w, code := v.With(most-1, true)
	if code != api.OK || w.Count() != 1 || !w.Get(most-1) || v.Get(most-1) {
		t.Errorf("With of the last bit that may be: %d", code)
	}
}

func TestWithRefuses(t *testing.T) {
	for _, n := range sizes {
		v := must(t, all(n, true))
		for _, i := range []int{-1, -64, math.MinInt, n, n + 1, n + 64, math.MaxInt} {
			for _, b := range []bool{false, true} {
				w, code := v.With(i, b)
				refused(t, "With, where there is no bit", w, code, api.ErrArg)
			}
		}
	}
}

func TestEqual(t *testing.T) {
	for _, n := range sizes {
		for _, l := range samples(n) {
			v := must(t, l)
			if !bits.Equal(v, v) || !bits.Equal(v, must(t, slices.Clone(l))) {
				t.Errorf("%d bits aren't Equal to the same ones", n)
			}
			if longer := must(t, append(slices.Clone(l), false)); bits.Equal(v, longer) || bits.Equal(longer, v) {
				t.Errorf("%d bits are Equal to one more", n)
			}
			for i := range n {
				other := slices.Clone(l)
				other[i] = !other[i]
				if bits.Equal(v, must(t, other)) {
					t.Errorf("%d bits are Equal to those with another bit %d", n, i)
				}
			}
		}
	}
}

// P2.3

func TestXorAndNot(t *testing.T) {
	for _, n := range append(slices.Clone(sizes), most) {
		for _, pair := range [][2][]bool{{truths(n, 3), truths(n, 4)}, {all(n, true), truths(n, 3)}, {truths(n, 4), all(n, false)}} {
			p, q := pair[0], pair[1]
			xor, and, not := make([]bool, n), make([]bool, n), make([]bool, n)
			for i := range n {
				xor[i], and[i], not[i] = p[i] != q[i], p[i] && q[i], !p[i]
			}
			a, b := must(t, p), must(t, q)
			v, code := bits.Xor(a, b)
			same(t, "Xor", v, code, xor)
			v, code = bits.And(a, b)
			same(t, "And", v, code, and)
			same(t, "Not", a.Not(), api.OK, not)
		}
	}
}

func TestXorAndRefuse(t *testing.T) {
	for _, n := range sizes {
		for _, m := range sizes {
			if n == m {
				continue
			}
			a, b := must(t, all(n, true)), must(t, all(m, true))
			v, code := bits.Xor(a, b)
			refused(t, "Xor of unlike lengths", v, code, api.ErrShape)
			v, code = bits.And(a, b)
			refused(t, "And of unlike lengths", v, code, api.ErrShape)
		}
	}
}

// P2.4

func TestPart(t *testing.T) {
	l := truths(200, 5)
	v := must(t, l)
	for from := 0; from <= len(l); from++ {
		for to := from; to <= len(l); to++ {
			p, code := v.Part(from, to)
			if want := l[from:to]; code != api.OK || p.Len() != len(want) || !slices.Equal(p.Raw(), packWords(want)) {
				t.Fatalf("Part(%d, %d): %x %d", from, to, p.Raw(), code)
			}
		}
	}
	for _, n := range sizes {
		v := must(t, all(n, true))
		for _, at := range []int{0, n / 2, n} {
			p, code := v.Part(at, n)
			same(t, "Part up to the end", p, code, all(n-at, true))
			p, code = v.Part(0, at)
			same(t, "Part from the beginning", p, code, all(at, true))
		}
	}
	big := truths(most, 6)
	p, code := must(t, big).Part(65, most-1)
	same(t, "Part of as many as may be", p, code, big[65:most-1])
}

func TestPartRefuses(t *testing.T) {
	for _, n := range sizes {
		v := must(t, all(n, true))
		for _, p := range [][2]int{{-1, n}, {-1, -1}, {math.MinInt, n}, {math.MinInt, math.MinInt}, {0, n + 1}, {n, n + 1}, {n + 1, n + 1}, {n + 1, n}, {n + 64, n + 64}, {0, -1}, {1, 0}, {0, math.MaxInt}, {math.MaxInt, math.MaxInt}, {math.MaxInt, math.MinInt}, {math.MinInt, math.MaxInt}} {
			w, code := v.Part(p[0], p[1])
			refused(t, "Part of places that are none", w, code, api.ErrArg)
		}
	}
}

func TestJoin(t *testing.T) {
	for _, n := range sizes {
		for _, m := range sizes {
			p, q, r := truths(n, 8), truths(m, 9), all(n, true)
			v, code := bits.Join(must(t, p), must(t, q), must(t, r))
			same(t, "Join", v, code, slices.Concat(p, q, r))
		}
	}
	v, code := bits.Join()
	same(t, "Join of none", v, code, nil)
	v, code = bits.Join(bits.Vec{}, bits.Vec{})
	same(t, "Join of Vecs of no bits", v, code, nil)
	one := must(t, truths(77, 1))
	v, code = bits.Join(one)
	same(t, "Join of one", v, code, truths(77, 1))
	v, code = bits.Join(slices.Repeat([]bits.Vec{must(t, []bool{true})}, 1000)...)
	same(t, "Join of many", v, code, all(1000, true))
}

func TestJoinUpToTheLimit(t *testing.T) {
	l := truths(most, 10)
	one := must(t, []bool{true})
	v, code := bits.Join(must(t, l[:most-3]), must(t, l[most-3:]), bits.Vec{})
	same(t, "Join of as many as may be", v, code, l)
	v, code = bits.Join(must(t, l))
	same(t, "Join of one as long as may be", v, code, l)
	full := must(t, l)
	v, code = bits.Join(full, one)
	refused(t, "Join of one more", v, code, api.ErrLimit)
	v, code = bits.Join(one, full)
	refused(t, "Join of one more ahead", v, code, api.ErrLimit)
	v, code = bits.Join(must(t, l[:most-3]), must(t, l[:4]))
	refused(t, "Join of parts of one more", v, code, api.ErrLimit)
	v, code = bits.Join(slices.Repeat([]bits.Vec{full}, 5000)...)
	refused(t, "Join of far too many", v, code, api.ErrLimit)
}

// P2.5

func TestBytesAndRead(t *testing.T) {
	for _, n := range sizes {
		for _, l := range samples(n) {
			if got := must(t, l).Bytes(); got != packBytes(l) {
				t.Errorf("Bytes of %d bits: %x", n, got)
			}
			v, code := bits.Read(n, packBytes(l))
			same(t, "Read", v, code, l)
		}
	}
	l := truths(most, 11)
	v, code := bits.Read(most, packBytes(l))
	same(t, "Read of as many as may be", v, code, l)
	v, code = bits.Read(most-1, packBytes(l[:most-1]))
	same(t, "Read of one fewer", v, code, l[:most-1])
}

func TestReadRefusesAWrongNumber(t *testing.T) {
	for _, n := range wrongSizes {
		for _, s := range []string{"", "\xff", strings.Repeat("\xff", most/8), strings.Repeat("\xff", most/8+1)} {
			v, code := bits.Read(n, s)
			refused(t, "Read of a wrong number", v, code, api.ErrLimit)
		}
	}
}

func TestReadRefusesAWrongLength(t *testing.T) {
	for _, n := range append(slices.Clone(sizes), most) {
		need := (n + 7) / 8
		for _, k := range []int{0, need - 1, need + 1, need + 8} {
			if k >= 0 && k != need { // full bytes, so that places behind the last bit aren't 0 either
				v, code := bits.Read(n, strings.Repeat("\xff", k))
				refused(t, "Read of too few or too many bytes", v, code, api.ErrShape)
			}
		}
	}
}

func TestReadRefusesWhatIsBehind(t *testing.T) {
	for n := 1; n <= 130; n++ {
		need := (n + 7) / 8
		for place := n; place < 8*need; place++ {
			for _, l := range samples(n) {
				b := []byte(packBytes(l))
				b[need-1] |= 1 << (place % 8)
				v, code := bits.Read(n, string(b))
				refused(t, "Read of a bit behind the last one", v, code, api.ErrForm)
			}
		}
	}
	v, code := bits.Read(most-1, strings.Repeat("\x00", most/8-1)+"\x80")
	refused(t, "Read of a bit behind the last of many", v, code, api.ErrForm)
}

// Example 1.
func TestExample(t *testing.T) {
	v, code := bits.Of([]bool{true, false, true})
	if code != api.OK || !slices.Equal(v.Raw(), []uint64{5}) || v.Bytes() != "\x05" || v.Count() != 2 || v.Odd() {
		t.Errorf("Raw %v, Bytes %x, Count %d, Odd %v, error %d", v.Raw(), v.Bytes(), v.Count(), v.Odd(), code)
	}
	if n := v.Not(); !slices.Equal(n.Raw(), []uint64{2}) || n.Len() != 3 {
		t.Errorf("Not: %v", n.Raw())
	}
}
