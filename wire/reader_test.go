package wire_test

import (
	"errors"
	"math"
	"math/rand"
	"slices"
	"strings"
	"testing"

	"trefoil/api"
	"trefoil/bits"
	"trefoil/fault"
	"trefoil/wire"
)

// is tells whether an error has a number, and no other one, and whether its path ends with a field's name.
func is(err error, code api.Errno, field string) bool {
	if code == api.OK {
		return err == nil
	}
	path := fault.Path(err)
	return fault.Code(err) == code && errors.Is(err, code) &&
		slices.Equal(fault.Codes(err), []api.Errno{code}) &&
		len(path) > 0 && path[len(path)-1] == field
}

// stands asks how much is read, and which fault there is.
func stands(t *testing.T, r *wire.Reader, at int, code api.Errno, field string) {
	t.Helper()
	if r.At() != at || !is(r.Err(), code, field) {
		t.Fatalf("At is %d, not %d; Err is %d at %q, not %d at %q", r.At(), at, fault.Code(r.Err()), fault.Path(r.Err()), code, field)
	}
}

// tellsNothing makes every call of a reader that has a fault (or is none), and looks whether nothing is told and nothing changes.
func tellsNothing(t *testing.T, r *wire.Reader) {
	t.Helper()
	at, code, path := r.At(), fault.Code(r.Err()), fault.Path(r.Err())
	if r.U8("x") != 0 || r.U32("x") != 0 || r.U64("x") != 0 {
		t.Error("a number is told behind a fault")
	}
	for _, n := range []int{0, 1, 2, -1, api.MaxMsg, api.MaxMsg + 1, math.MinInt, math.MaxInt} {
		if r.Raw("x", n) != "" || r.Blob("x", n) != "" || r.Bits("x", n).Len() != 0 {
			t.Errorf("with %d bytes are told behind a fault", n)
		}
		for _, width := range []int{1, 8, 64, 0, 65, math.MinInt, math.MaxInt} {
			if l := r.Words("x", width, n); len(l) != 0 {
				t.Errorf("words are told behind a fault: %d", l)
			}
		}
	}
	r.Fail("x", api.ErrAbort)
	r.Fail("x", api.OK)
	if end := r.End(); fault.Code(end) != code || !slices.Equal(fault.Path(end), path) {
		t.Errorf("End behind a fault is %v", end)
	}
	if fault.Code(r.Err()) != code || !slices.Equal(fault.Path(r.Err()), path) || r.At() != at {
		t.Errorf("behind the fault %d at %q, %d bytes read, there is %d at %q, %d bytes read", code, path, at, fault.Code(r.Err()), fault.Path(r.Err()), r.At())
	}
}

// refused looks whether a call at some bytes has a fault, at whatever place they stand, tells nothing, and reads nothing.
func refused(t *testing.T, name, s string, code api.Errno, call func(r *wire.Reader, field string) bool) {
	t.Helper()
	for _, ahead := range []string{"", "z", "\x00\x00\x00\x01z"} {
		for _, field := range []string{"field", "", "a: b"} {
			r := wire.NewReader(ahead + s)
			r.Raw("ahead", len(ahead))
			if !call(r, field) {
				t.Errorf("%s of %.40q tells something", name, s)
			}
			stands(t, r, len(ahead), code, field)
			tellsNothing(t, r)
		}
	}
}

func refusedRaw(t *testing.T, s string, n int, code api.Errno) {
	t.Helper()
	refused(t, "Raw", s, code, func(r *wire.Reader, field string) bool { return r.Raw(field, n) == "" })
}

func refusedBlob(t *testing.T, s string, most int, code api.Errno) {
	t.Helper()
	refused(t, "Blob", s, code, func(r *wire.Reader, field string) bool { return r.Blob(field, most) == "" })
}

func refusedWords(t *testing.T, s string, width, most int, code api.Errno) {
	t.Helper()
	refused(t, "Words", s, code, func(r *wire.Reader, field string) bool { return len(r.Words(field, width, most)) == 0 })
}

func refusedBits(t *testing.T, s string, most int, code api.Errno) {
	t.Helper()
	refused(t, "Bits", s, code, func(r *wire.Reader, field string) bool { return r.Bits(field, most).Len() == 0 })
}

// P8.2

func TestNumbersRead(t *testing.T) {
	r := wire.NewReader("\x07\x00\x00\x01\x02\x80\x00\x00\x00\x00\x00\x00\x01\xff\xff\xff\xff\xfe\xff\xff\xff\xff\xff\xff\xff\xff")
	stands(t, r, 0, api.OK, "")
	if x := r.U8("a"); x != 7 {
		t.Errorf("U8 is %d", x)
	}
	stands(t, r, 1, api.OK, "")
	if x := r.U32("b"); x != 258 {
		t.Errorf("U32 is %d", x)
	}
	stands(t, r, 5, api.OK, "")
	if x := r.U64("c"); x != 1<<63+1 {
		t.Errorf("U64 is %d", x)
	}
	stands(t, r, 13, api.OK, "")
	if a, b, c := r.U8("d"), r.U32("e"), r.U64("f"); a != 255 || b != 0xfffffffe || c != math.MaxUint64 {
		t.Errorf("numbers are %x, %x, %x", a, b, c)
	}
	if err := r.End(); err != nil {
		t.Error("End is", err)
	}
	stands(t, r, 26, api.OK, "")
}

func TestNumbersTooShort(t *testing.T) {
	whole := "\x01\x02\x03\x04\x05\x06\x07\x08"
	for n := range 8 {
		if n < 1 {
			refused(t, "U8", whole[:n], api.ErrShort, func(r *wire.Reader, field string) bool { return r.U8(field) == 0 })
		}
		if n < 4 {
			refused(t, "U32", whole[:n], api.ErrShort, func(r *wire.Reader, field string) bool { return r.U32(field) == 0 })
		}
		refused(t, "U64", whole[:n], api.ErrShort, func(r *wire.Reader, field string) bool { return r.U64(field) == 0 })
	}
}

func TestRawRead(t *testing.T) {
	s := someBytes(rand.New(rand.NewSource(1)), api.MaxMsg+10)
	for _, n := range []int{0, 1, 2, 17, 4096, api.MaxMsg - 1, api.MaxMsg} {
		r := wire.NewReader(s)
		if got := r.Raw("a", n); got != s[:n] {
			t.Errorf("Raw of %d bytes tells others", n)
		}
		stands(t, r, n, api.OK, "")
		if got := r.Raw("b", 10); got != s[n:n+10] {
			t.Errorf("Raw behind %d bytes is %x", n, got)
		}
		stands(t, r, n+10, api.OK, "")
	}
	r := wire.NewReader("")
	if got := r.Raw("a", 0); got != "" {
		t.Errorf("Raw of nothing is %q", got)
	}
	stands(t, r, 0, api.OK, "")
}

func TestRawRefused(t *testing.T) {
	great := strings.Repeat("g", api.MaxMsg+5)
	for _, n := range []int{-1, math.MinInt, api.MaxMsg + 1, api.MaxMsg + 5, math.MaxInt} {
		refusedRaw(t, great, n, api.ErrArg)
		refusedRaw(t, "", n, api.ErrArg)
	}
	refusedRaw(t, "", 1, api.ErrShort)
	refusedRaw(t, "abc", 4, api.ErrShort)
	refusedRaw(t, "abc", api.MaxMsg, api.ErrShort)
	refusedRaw(t, great[:api.MaxMsg-1], api.MaxMsg, api.ErrShort)
}

// P8.3

func TestBlobRead(t *testing.T) {
	s := someBytes(rand.New(rand.NewSource(2)), api.MaxMsg)
	for _, n := range []int{0, 1, 3, 255, 256, 65535, api.MaxMsg} {
		for _, most := range []int{n, n + 1, api.MaxMsg, math.MaxInt} {
			r := wire.NewReader("z" + count(n) + s[:n] + "tail")
			r.U8("ahead")
			if got := r.Blob("a", most); got != s[:n] {
				t.Errorf("Blob of %d bytes, at most %d, tells %d", n, most, len(got))
			}
			stands(t, r, 1+4+n, api.OK, "")
			if got := r.Raw("b", 4); got != "tail" {
				t.Errorf("behind Blob is %q", got)
			}
		}
	}
}

func TestBlobRefused(t *testing.T) {
	for _, s := range []string{"", "\x00", "\x00\x00\x00"} {
		refusedBlob(t, s, 9, api.ErrShort)
		refusedBlob(t, s, -1, api.ErrShort)
	}
	refusedBlob(t, count(4)+"abcd", 3, api.ErrLimit)
	refusedBlob(t, count(4)+"abc", 3, api.ErrLimit)
	refusedBlob(t, count(1)+"a", 0, api.ErrLimit)
	refusedBlob(t, count(0), -1, api.ErrLimit)
	refusedBlob(t, count(0), math.MinInt, api.ErrLimit)
	great := strings.Repeat("g", api.MaxMsg+1)
	for _, most := range []int{api.MaxMsg, api.MaxMsg + 1, math.MaxInt} {
		refusedBlob(t, count(api.MaxMsg+1)+great, most, api.ErrLimit)
		refusedBlob(t, "\x7f\xff\xff\xff", most, api.ErrLimit)
		refusedBlob(t, "\x80\x00\x00\x00", most, api.ErrLimit)
		refusedBlob(t, "\xff\xff\xff\xff", most, api.ErrLimit)
	}
	refusedBlob(t, count(4)+"abc", 4, api.ErrShort)
	refusedBlob(t, count(1), 9, api.ErrShort)
	refusedBlob(t, count(api.MaxMsg)+great[2:], math.MaxInt, api.ErrShort)
}

func TestWordsReadOfEachWidth(t *testing.T) {
	r := rand.New(rand.NewSource(3))
	for width := 1; width <= 64; width++ {
		top := uint64(math.MaxUint64) >> (64 - width)
		for _, l := range [][]uint64{nil, {0}, {top}, {1, top, 0}, someWords(r, 40, width)} {
			s := slowWords(width, l)
			for _, most := range []int{len(l), len(l) + 1, math.MaxInt} {
				x := wire.NewReader("z" + s + "tail")
				x.U8("ahead")
				if got := x.Words("a", width, most); !slices.Equal(got, l) {
					t.Fatalf("Words of %d bits are %x, not %x", width, got, l)
				}
				stands(t, x, 1+len(s), api.OK, "")
				if got := x.Raw("b", 4); got != "tail" {
					t.Errorf("behind Words is %q", got)
				}
			}
			refusedWords(t, s, width, len(l)-1, api.ErrLimit)
			refusedWords(t, s[:len(s)-1], width, len(l), api.ErrShort)
		}
	}
}

func TestMostWordsRead(t *testing.T) {
	l := someWords(rand.New(rand.NewSource(4)), api.MaxMsg+1, 64)
	s := slowWords(64, l[:api.MaxMsg])
	r := wire.NewReader(s)
	if got := r.Words("a", 64, math.MaxInt); !slices.Equal(got, l[:api.MaxMsg]) {
		t.Errorf("of %d words %d are read", api.MaxMsg, len(got))
	}
	stands(t, r, len(s), api.OK, "")
	refusedWords(t, s[:len(s)-1], 64, math.MaxInt, api.ErrShort)
	refusedWords(t, slowWords(64, l), 64, math.MaxInt, api.ErrLimit)
	refusedWords(t, slowWords(64, l), 64, api.MaxMsg+1, api.ErrLimit)
}

func TestWordsRefused(t *testing.T) {
	for _, width := range []int{0, -1, 65, math.MinInt, math.MaxInt} {
		for _, s := range []string{"", count(1), count(0), count(1) + "\x01", "\xff\xff\xff\xff"} {
			refusedWords(t, s, width, 1, api.ErrShape)
			refusedWords(t, s, width, -1, api.ErrShape)
		}
	}
	for _, s := range []string{"", "\x00", "\x00\x00\x00"} {
		refusedWords(t, s, 8, 9, api.ErrShort)
		refusedWords(t, s, 64, -1, api.ErrShort)
	}
	refusedWords(t, count(0), 8, -1, api.ErrLimit)
	refusedWords(t, count(0), 8, math.MinInt, api.ErrLimit)
	refusedWords(t, count(2)+"\xff", 1, 1, api.ErrLimit)
	refusedWords(t, count(api.MaxMsg+1), 1, math.MaxInt, api.ErrLimit)
	refusedWords(t, "\x80\x00\x00\x00", 1, math.MaxInt, api.ErrLimit)
	refusedWords(t, "\xff\xff\xff\xff", 64, math.MaxInt, api.ErrLimit)
	refusedWords(t, count(2)+"\xff", 1, 2, api.ErrShort) // ahead of the bit above width
	refusedWords(t, count(2)+"\x10\x00\x00", 12, 2, api.ErrShort)
	refusedWords(t, count(1)+"\x10\x00", 12, 1, api.ErrForm)
	refusedWords(t, count(2)+"\x0f\xff\xf0\x00", 12, 2, api.ErrForm)
}

func TestEachBitAboveWidthIsRefused(t *testing.T) {
	for width := 1; width <= 64; width++ {
		for bit := range (width + 7) / 8 * 8 {
			for place := range 3 {
				l := []uint64{0, 0, 0}
				l[place] = 1 << bit
				s := slowWords(width, l)
				if bit >= width {
					refusedWords(t, s, width, 3, api.ErrForm)
				} else if got := wire.NewReader(s).Words("a", width, 3); !slices.Equal(got, l) {
					t.Fatalf("Words of %d bits are %x, not %x", width, got, l)
				}
			}
		}
	}
}

func TestBitsRead(t *testing.T) {
	r := rand.New(rand.NewSource(5))
	for n := range 200 {
		v := someBits(r, n)
		s := count(n) + v.Bytes()
		for _, most := range []int{n, n + 1, math.MaxInt} {
			x := wire.NewReader("z" + s + "\xfftail")
			x.U8("ahead")
			if got := x.Bits("a", most); !bits.Equal(got, v) {
				t.Fatalf("%d bits are read as others", n)
			}
			stands(t, x, 1+len(s), api.OK, "")
			if got := x.Raw("b", 5); got != "\xfftail" {
				t.Errorf("behind Bits is %q", got)
			}
		}
		refusedBits(t, s, n-1, api.ErrLimit)
		refusedBits(t, s[:len(s)-1], n, api.ErrShort)
		for bit := n % 8; n%8 != 0 && bit < 8; bit++ {
			spoilt := []byte(s)
			spoilt[len(s)-1] |= 1 << bit
			refusedBits(t, string(spoilt), n, api.ErrForm)
		}
	}
}

func TestMostBitsRead(t *testing.T) {
	const most = 8 * api.MaxMsg
	v := someBits(rand.New(rand.NewSource(6)), most)
	s := count(most) + v.Bytes()
	for _, n := range []int{most, most + 1, math.MaxInt} {
		r := wire.NewReader(s)
		if got := r.Bits("a", n); !bits.Equal(got, v) {
			t.Errorf("of %d bits %d are read", most, got.Len())
		}
		stands(t, r, len(s), api.OK, "")
		refusedBits(t, s[:len(s)-1], n, api.ErrShort)
		refusedBits(t, count(most+1)+v.Bytes()+"\x00", n, api.ErrLimit)
	}
	refusedBits(t, s, most-1, api.ErrLimit)
}

func TestBitsRefused(t *testing.T) {
	for _, s := range []string{"", "\x00", "\x00\x00\x00"} {
		refusedBits(t, s, 9, api.ErrShort)
		refusedBits(t, s, -1, api.ErrShort)
	}
	refusedBits(t, count(0), -1, api.ErrLimit)
	refusedBits(t, count(0), math.MinInt, api.ErrLimit)
	refusedBits(t, count(3)+"\xff", 2, api.ErrLimit) // ahead of the places behind the last bit
	refusedBits(t, "\x80\x00\x00\x00", math.MaxInt, api.ErrLimit)
	refusedBits(t, "\xff\xff\xff\xff", math.MaxInt, api.ErrLimit)
	refusedBits(t, count(9)+"\xff", 9, api.ErrShort)
	refusedBits(t, count(9)+"\xff\x02", 9, api.ErrForm)
	refusedBits(t, count(1)+"\x80", 9, api.ErrForm)
}

// P8.4

func TestFail(t *testing.T) {
	for _, code := range []api.Errno{api.ErrArg, api.ErrNil, api.ErrKind, api.ErrEnd, -3, 1 << 40} {
		r := wire.NewReader("abc")
		r.U8("a")
		r.Fail("b", api.OK)
		stands(t, r, 1, api.OK, "")
		if x := r.U8("c"); x != 'b' {
			t.Errorf("behind Fail of OK U8 is %d", x)
		}
		r.Fail("d", code)
		stands(t, r, 2, code, "d")
		r.Fail("e", api.ErrShape)
		r.Fail("d", api.ErrTail)
		stands(t, r, 2, code, "d")
		tellsNothing(t, r)
	}
}

func TestTheFirstFaultStays(t *testing.T) {
	r := wire.NewReader("\x01\x02")
	r.U8("a")
	r.U32("b")
	stands(t, r, 1, api.ErrShort, "b")
	r.Words("c", 0, 1)
	r.Raw("d", -1)
	r.Fail("e", api.ErrKind)
	stands(t, r, 1, api.ErrShort, "b")
	if x := r.U8("f"); x != 0 { // though there is one
		t.Errorf("behind a fault U8 is %d", x)
	}
	if err := r.End(); !is(err, api.ErrShort, "b") {
		t.Error("End behind a fault is", err)
	}
	tellsNothing(t, r)
}

func TestEnd(t *testing.T) {
	r := wire.NewReader("")
	if err := r.End(); err != nil {
		t.Error("End of nothing is", err)
	}
	stands(t, r, 0, api.OK, "")
	r = wire.NewReader("ab")
	r.Raw("a", 2)
	for range 2 {
		if err := r.End(); err != nil {
			t.Error("End of all is", err)
		}
	}
	if r.U8("b"); !is(r.End(), api.ErrShort, "b") {
		t.Error("End behind what there isn't is", r.End())
	}
	for n := range 5 {
		r = wire.NewReader("abcde")
		r.Raw("a", n)
		if err := r.End(); !is(err, api.ErrTail, "end") {
			t.Errorf("End with %d left is %v", 5-n, err)
		}
		stands(t, r, n, api.ErrTail, "end")
		tellsNothing(t, r)
	}
}

func TestAtCountsWhatIsRead(t *testing.T) {
	r := wire.NewReader("a" + count(2) + "bc" + count(1) + "\x00\x05" + count(3) + "\x07" + "dd")
	for _, c := range []struct {
		call func()
		at   int
	}{
		{func() { r.U8("a") }, 1},
		{func() { r.Blob("b", 2) }, 7},
		{func() { r.Words("c", 9, 1) }, 13},
		{func() { r.Bits("d", 3) }, 18},
		{func() { r.Raw("e", 0) }, 18},
		{func() { r.Raw("f", 2) }, 20},
	} {
		c.call()
		stands(t, r, c.at, api.OK, "")
	}
	if err := r.End(); err != nil {
		t.Error("End is", err)
	}
}

// The rules: what is nil, and memory.

func TestNilAndWhatNoCallMade(t *testing.T) {
	for _, r := range []*wire.Reader{nil, {}, new(wire.Reader)} {
		for range 2 {
			if fault.Code(r.Err()) != api.ErrNil || fault.Code(r.End()) != api.ErrNil || r.At() != 0 {
				t.Errorf("of no reader Err is %v, End is %v, At is %d", r.Err(), r.End(), r.At())
			}
			tellsNothing(t, r)
		}
	}
}

func TestFaultsToldAreNewMemory(t *testing.T) {
	r := wire.NewReader("")
	r.U8("a")
	for _, err := range []error{r.Err(), r.End()} {
		var f *fault.Fault
		if !errors.As(err, &f) {
			t.Fatal("no Fault is told:", err)
		}
		f.Code, f.Where, f.Cause = api.ErrAbort, "other", nil
		stands(t, r, 0, api.ErrShort, "a")
	}
}

func TestListsToldAreNewMemory(t *testing.T) {
	s := slowWords(8, []uint64{1, 2, 3})
	r := wire.NewReader(s + s)
	first := r.Words("a", 8, 3)
	whole := first[:cap(first)]
	for i := range whole {
		whole[i] = 99
	}
	if second := r.Words("b", 8, 3); !slices.Equal(second, []uint64{1, 2, 3}) {
		t.Errorf("an answer changes another one: %d", second)
	}
}

func TestReadersAreTheirOwn(t *testing.T) {
	a := wire.NewReader("abc")
	b := wire.NewReader("abc")
	a.U8("a")
	c := *a
	c.U64("c")
	if x := a.U8("a"); x != 'b' {
		t.Errorf("U8 is %d", x)
	}
	stands(t, a, 2, api.OK, "")
	stands(t, b, 0, api.OK, "")
	stands(t, &c, 1, api.ErrShort, "c")
}
