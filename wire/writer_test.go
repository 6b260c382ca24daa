package wire_test

import (
	"encoding/binary"
	"math"
	"math/big"
	"math/rand"
	"slices"
	"strings"
	"testing"

	"trefoil/api"
	"trefoil/bits"
	"trefoil/wire"
)

// wrote looks whether a call of a new Writer, and of one that has written already, writes just these bytes.
func wrote(t *testing.T, name string, write func(w *wire.Writer), want string) {
	t.Helper()
	var w wire.Writer
	write(&w)
	if got := w.Bytes(); got != want {
		t.Fatalf("%s writes %x, not %x", name, got, want)
	}
	write(&w)
	w.U8(0xa5)
	if got := w.Bytes(); got != want+want+"\xa5" {
		t.Fatalf("%s twice, and a byte, writes %x, not %x", name, got, want+want+"\xa5")
	}
}

func someWords(r *rand.Rand, n, width int) []uint64 {
	l := make([]uint64, n)
	for i := range l {
		l[i] = r.Uint64() >> (64 - width)
	}
	return l
}

func someBytes(r *rand.Rand, n int) string {
	l := make([]byte, n)
	r.Read(l)
	return string(l)
}

func someBits(r *rand.Rand, n int) bits.Vec {
	l := make([]bool, n)
	for i := range l {
		l[i] = r.Intn(2) == 1
	}
	v, code := bits.Of(l)
	if code != api.OK {
		panic(code)
	}
	return v
}

// count is how many as four bytes, by another hand.
func count(n int) string {
	return string(binary.BigEndian.AppendUint32(nil, uint32(n)))
}

// P8.1

func TestNothingWritten(t *testing.T) {
	var w wire.Writer
	if w.Bytes() != "" || new(wire.Writer).Bytes() != "" {
		t.Error("a new Writer has written something")
	}
	wrote(t, "nothing", func(w *wire.Writer) {}, "")
}

func TestExample(t *testing.T) {
	wrote(t, "U32", func(w *wire.Writer) { w.U32(258) }, "\x00\x00\x01\x02")
	wrote(t, "Words", func(w *wire.Writer) { w.Words(12, []uint64{1, 300}) }, "\x00\x00\x00\x02\x00\x01\x01\x2c")
}

func TestNumbers(t *testing.T) {
	r := rand.New(rand.NewSource(1))
	for x := range 256 {
		wrote(t, "U8", func(w *wire.Writer) { w.U8(uint8(x)) }, string([]byte{byte(x)}))
	}
	numbers := []uint64{0, 1, 255, 256, 1<<16 - 1, 1 << 16, 1 << 24, 1 << 31, 1<<32 - 1, 1 << 32, 1 << 63, 0x0102030405060708, math.MaxUint64}
	for _, x := range append(numbers, someWords(r, 300, 64)...) {
		wrote(t, "U32", func(w *wire.Writer) { w.U32(uint32(x)) }, string(binary.BigEndian.AppendUint32(nil, uint32(x))))
		wrote(t, "U64", func(w *wire.Writer) { w.U64(x) }, string(binary.BigEndian.AppendUint64(nil, x)))
	}
}

func TestBlobAndRaw(t *testing.T) {
	r := rand.New(rand.NewSource(2))
	texts := []string{"", "a", "\x00", "\xff\x00\xc3", "abc", strings.Repeat("x", 255), strings.Repeat("y", 256)}
	for _, n := range []int{257, 4096, api.MaxMsg, api.MaxMsg + 1, 1 << 20} {
		texts = append(texts, someBytes(r, n))
	}
	for _, s := range texts {
		wrote(t, "Raw", func(w *wire.Writer) { w.Raw(s) }, s)
		wrote(t, "Blob", func(w *wire.Writer) { w.Blob(s) }, count(len(s))+s)
	}
}

// slowWords tells the form of words by numbers without a bound.
func slowWords(width int, l []uint64) string {
	size := 1
	for 8*size < width {
		size++
	}
	form := []byte(count(len(l)))
	for _, x := range l {
		form = append(form, new(big.Int).SetUint64(x).FillBytes(make([]byte, size))...)
	}
	return string(form)
}

func TestWordsOfEachWidth(t *testing.T) {
	r := rand.New(rand.NewSource(3))
	for width := 1; width <= 64; width++ {
		top := uint64(math.MaxUint64) >> (64 - width)
		for _, l := range [][]uint64{nil, {}, {0}, {1}, {top}, {top, 0, 1, top / 2}, someWords(r, 50, width)} {
			wrote(t, "Words", func(w *wire.Writer) { w.Words(width, l) }, slowWords(width, l))
		}
	}
	l := someWords(r, api.MaxMsg+1, 64)
	wrote(t, "Words", func(w *wire.Writer) { w.Words(64, l) }, slowWords(64, l))
}

func TestBits(t *testing.T) {
	r := rand.New(rand.NewSource(4))
	for n := range 300 {
		v := someBits(r, n)
		form := make([]byte, (n+7)/8)
		for i := range n {
			if v.Get(i) {
				form[i/8] |= 1 << (i % 8)
			}
		}
		wrote(t, "Bits", func(w *wire.Writer) { w.Bits(v) }, count(n)+string(form))
	}
	wrote(t, "Bits", func(w *wire.Writer) { w.Bits(bits.Vec{}) }, "\x00\x00\x00\x00")
	most, code := bits.New(1 << 22)
	if code != api.OK {
		t.Fatal(code)
	}
	wrote(t, "Bits", func(w *wire.Writer) { w.Bits(most) }, "\x00\x40\x00\x00"+strings.Repeat("\x00", 1<<19))
}

func TestFieldsInTheirOrder(t *testing.T) {
	var w wire.Writer
	v, _ := bits.Of([]bool{true, true, false, false, false, false, false, false, true})
	w.U8(1)
	w.Raw("r")
	w.U64(2)
	w.Blob("bl")
	w.Bits(v)
	w.U32(3)
	w.Words(3, []uint64{5})
	w.Raw("")
	const want = "\x01" + "r" + "\x00\x00\x00\x00\x00\x00\x00\x02" + "\x00\x00\x00\x02bl" + "\x00\x00\x00\x09\x03\x01" + "\x00\x00\x00\x03" + "\x00\x00\x00\x01\x05"
	for range 3 {
		if got := w.Bytes(); got != want {
			t.Fatalf("%x, not %x", got, want)
		}
	}
	w.U8(9)
	if got := w.Bytes(); got != want+"\x09" {
		t.Errorf("%x, not %x", got, want+"\x09")
	}
}

// Many small fields are written in a moment: what was written isn't copied each time.
func TestManyFields(t *testing.T) {
	var w wire.Writer
	want := make([]byte, 1<<20)
	for i := range want {
		want[i] = byte(i * 7)
		w.U8(want[i])
	}
	if w.Bytes() != string(want) {
		t.Error("a byte written by itself is lost")
	}
}

// The rules: wrong widths, what is nil, and memory.

func TestWordsOfNoWidth(t *testing.T) {
	for _, width := range []int{0, -1, -7, -8, 65, 72, math.MinInt, math.MaxInt, math.MaxInt - 6} {
		for _, l := range [][]uint64{nil, {0}, {1, 2, 3}} {
			wrote(t, "Words of no width", func(w *wire.Writer) { w.Words(width, l) }, "")
		}
	}
}

// Bits above width have no place in the form, unless they are in the bytes that width needs: these are written as they are.
func TestWordsTooGreat(t *testing.T) {
	wrote(t, "Words", func(w *wire.Writer) { w.Words(8, []uint64{300}) }, "\x00\x00\x00\x01\x2c")
	wrote(t, "Words", func(w *wire.Writer) { w.Words(12, []uint64{0xfedcba9876543210, 0xf123}) }, "\x00\x00\x00\x02\x32\x10\xf1\x23")
}

func TestNilWriter(t *testing.T) {
	var w *wire.Writer
	w.U8(1)
	w.U32(1)
	w.U64(1)
	w.Blob("a")
	w.Raw("a")
	w.Words(8, []uint64{1})
	w.Words(0, nil)
	w.Bits(bits.Vec{})
	if got := w.Bytes(); got != "" {
		t.Errorf("no Writer has written %x", got)
	}
}

func TestWordsHandedInStay(t *testing.T) {
	room := []uint64{1, 2, 3, 4, 5}
	var w wire.Writer
	w.Words(8, room[:3])
	if !slices.Equal(room, []uint64{1, 2, 3, 4, 5}) {
		t.Errorf("what was handed in is %d then", room)
	}
	clear(room)
	if got := w.Bytes(); got != "\x00\x00\x00\x03\x01\x02\x03" {
		t.Errorf("what was handed in is kept: %x", got)
	}
}

func TestWritersAreTheirOwn(t *testing.T) {
	for n := range 40 {
		var a wire.Writer
		for i := range n {
			a.U8(uint8(i))
		}
		ahead := a.Bytes()
		b := a
		a.Raw("a")
		b.Raw("bb")
		c := b
		a.U8(1)
		c.U8(3)
		b.U8(2)
		if a.Bytes() != ahead+"a\x01" || b.Bytes() != ahead+"bb\x02" || c.Bytes() != ahead+"bb\x03" {
			t.Fatalf("behind %d bytes: %x, %x, %x", n, a.Bytes(), b.Bytes(), c.Bytes())
		}
	}
}
