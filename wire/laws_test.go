package wire_test

import (
	"encoding/binary"
	"math/rand"
	"slices"
	"testing"

	"trefoil/api"
	"trefoil/bits"
	"trefoil/fault"
	"trefoil/wire"
)

// field is a field of any kind, and what is asked of it: n is how many bytes Raw is to read, or how many a list may have at most.
type field struct {
	kind, width, n int
	number         uint64
	text           string
	words          []uint64
	vec            bits.Vec
}

const (
	u8 = iota
	u32
	u64
	blob
	raw
	words
	vec
	kinds
)

func anyField(r *rand.Rand) field {
	f := field{kind: r.Intn(kinds), width: 1 + r.Intn(64)}
	many := r.Intn(20)
	switch f.kind {
	case u8:
		f.number = r.Uint64() >> 56
	case u32:
		f.number = r.Uint64() >> 32
	case u64:
		f.number = r.Uint64()
	case blob, raw:
		f.text = someBytes(r, many)
	case words:
		f.words = someWords(r, many, f.width)
	case vec:
		f.vec = someBits(r, many)
	}
	f.n = many
	return f
}

func (f field) write(w *wire.Writer) {
	switch f.kind {
	case u8:
		w.U8(uint8(f.number))
	case u32:
		w.U32(uint32(f.number))
	case u64:
		w.U64(f.number)
	case blob:
		w.Blob(f.text)
	case raw:
		w.Raw(f.text)
	case words:
		w.Words(f.width, f.words)
	case vec:
		w.Bits(f.vec)
	}
}

// read reads a field of the same kind, with the same arguments.
func (f field) read(r *wire.Reader) field {
	got := field{kind: f.kind, width: f.width, n: f.n}
	switch f.kind {
	case u8:
		got.number = uint64(r.U8("f"))
	case u32:
		got.number = uint64(r.U32("f"))
	case u64:
		got.number = r.U64("f")
	case blob:
		got.text = r.Blob("f", f.n)
	case raw:
		got.text = r.Raw("f", f.n)
	case words:
		got.words = r.Words("f", f.width, f.n)
	case vec:
		got.vec = r.Bits("f", f.n)
	}
	return got
}

func (f field) same(g field) bool {
	return f.kind == g.kind && f.width == g.width && f.n == g.n && f.number == g.number && f.text == g.text &&
		slices.Equal(f.words, g.words) && bits.Equal(f.vec, g.vec)
}

// P8.5

func TestWhatIsWrittenIsRead(t *testing.T) {
	r := rand.New(rand.NewSource(1))
	for range 5000 {
		var w wire.Writer
		var fields []field
		var ends []int
		for range r.Intn(12) {
			f := anyField(r)
			f.write(&w)
			fields = append(fields, f)
			ends = append(ends, len(w.Bytes()))
		}
		tail := someBytes(r, r.Intn(4))
		x := wire.NewReader(w.Bytes() + tail)
		for i, f := range fields {
			if got := f.read(x); !got.same(f) || x.At() != ends[i] {
				t.Fatalf("%+v is read as %+v, up to %d, not %d: %v", f, got, x.At(), ends[i], x.Err())
			}
		}
		want := api.OK
		if tail != "" {
			want = api.ErrTail
		}
		if err := x.End(); !is(err, want, "end") {
			t.Fatalf("End with %d bytes left is %v", len(tail), err)
		}
	}
}

// anyText is bytes that often have the look of lists: small numbers of things, and bytes of few bits.
func anyText(r *rand.Rand) string {
	var l []byte
	for range r.Intn(8) {
		if r.Intn(3) > 0 {
			l = append(l, count(r.Intn(8))...)
		}
		for _, b := range []byte(someBytes(r, r.Intn(12))) {
			l = append(l, b>>r.Intn(8))
		}
	}
	return string(l)
}

func TestWhatIsReadIsWrittenTheSame(t *testing.T) {
	r := rand.New(rand.NewSource(2))
	faults := map[api.Errno]int{}
	for range 50000 {
		s := anyText(r)
		x := wire.NewReader(s)
		var w wire.Writer
		for x.Err() == nil && r.Intn(10) != 0 {
			got := anyField(r).read(x)
			if x.Err() == nil {
				got.write(&w)
			}
		}
		if again := w.Bytes(); again != s[:x.At()] {
			t.Fatalf("%x is read, up to %d, and written as %x", s, x.At(), again)
		}
		faults[fault.Code(x.Err())]++
	}
	for _, code := range []api.Errno{api.OK, api.ErrShort, api.ErrLimit, api.ErrForm} {
		if faults[code] < 500 {
			t.Errorf("the fault %d came %d times: these bytes try little", code, faults[code])
		}
	}
}

// slow says what a read of a field is to tell of bytes, by another hand: the field, how many bytes it has, and its fault.
func slow(s string, f field) (field, int, api.Errno) {
	got := field{kind: f.kind, width: f.width, n: f.n}
	sizes := map[int]int{u8: 1, u32: 4, u64: 8}
	if size, ok := sizes[f.kind]; ok {
		if len(s) < size {
			return got, 0, api.ErrShort
		}
		var room [8]byte
		copy(room[8-size:], s[:size])
		got.number = binary.BigEndian.Uint64(room[:])
		return got, size, api.OK
	}
	if f.kind == raw {
		if f.n < 0 || f.n > 65536 {
			return got, 0, api.ErrArg
		}
		if len(s) < f.n {
			return got, 0, api.ErrShort
		}
		got.text = s[:f.n]
		return got, f.n, api.OK
	}
	return slowList(s, f, got)
}

func slowList(s string, f, got field) (field, int, api.Errno) {
	none := got
	if f.kind == words && (f.width < 1 || f.width > 64) {
		return none, 0, api.ErrShape
	}
	if len(s) < 4 {
		return none, 0, api.ErrShort
	}
	many := int(binary.BigEndian.Uint32([]byte(s[:4])))
	size, limit := many, 65536
	switch f.kind {
	case words:
		size = many * ((f.width + 7) / 8)
	case vec:
		size, limit = (many+7)/8, 524288
	}
	if many > f.n || many > limit {
		return none, 0, api.ErrLimit
	}
	if len(s)-4 < size {
		return none, 0, api.ErrShort
	}
	held := s[4 : 4+size]
	switch f.kind {
	case blob:
		got.text = held
	case words:
		for i := range many {
			x := uint64(0)
			for _, b := range []byte(held[i*size/many : (i+1)*size/many]) {
				x = x*256 + uint64(b)
			}
			if f.width < 64 && x >= 1<<f.width {
				return none, 0, api.ErrForm
			}
			got.words = append(got.words, x)
		}
	case vec:
		truths := make([]bool, 8*size)
		for i := range truths {
			truths[i] = held[i/8]>>(i%8)%2 == 1
		}
		if slices.Contains(truths[many:], true) {
			return none, 0, api.ErrForm
		}
		got.vec, _ = bits.Of(truths[:many])
	}
	return got, 4 + size, api.OK
}

func TestReadsAgainstASlowReader(t *testing.T) {
	r := rand.New(rand.NewSource(3))
	faults := map[api.Errno]int{}
	for range 50000 {
		s := anyText(r)
		x, at := wire.NewReader(s), 0
		for x.Err() == nil {
			f := anyField(r)
			if r.Intn(8) == 0 {
				f.n = []int{-1, 0, 65536, 65537, 524289}[r.Intn(5)]
			}
			if r.Intn(8) == 0 {
				f.width = []int{-1, 0, 65}[r.Intn(3)]
			}
			want, size, code := slow(s[at:], f)
			got := f.read(x)
			at += size
			if !got.same(want) || x.At() != at || !is(x.Err(), code, "f") {
				t.Fatalf("of %x, at %d: %+v, %v, not %+v, %d", s, at, got, x.Err(), want, code)
			}
			if f.kind == raw && f.n == 0 || at == len(s) && r.Intn(2) == 0 {
				break
			}
		}
		faults[fault.Code(x.Err())]++
	}
	for _, code := range []api.Errno{api.OK, api.ErrArg, api.ErrLimit, api.ErrShape, api.ErrShort, api.ErrForm} {
		if faults[code] < 200 {
			t.Errorf("the fault %d came %d times: these bytes try little", code, faults[code])
		}
	}
}
