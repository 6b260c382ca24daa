package sha_test

import (
	"crypto/sha256"
	"encoding/binary"
	"encoding/hex"
	"math"
	"math/rand"
	"strings"
	"testing"

	"trefoil/api"
	"trefoil/sha"
)

// text makes n bytes of all kinds, 0 and what is no UTF-8 among them; the same n and salt make the same.
func text(n int, salt int64) string {
	r := rand.New(rand.NewSource(int64(n)*1000 + salt))
	b := make([]byte, n)
	for i := range b {
		b[i] = byte(r.Intn(256))
	}
	return string(b)
}

// reference is the sum as Go's library tells it.
func reference(s string) api.Digest { return sha256.Sum256([]byte(s)) }

func expect(t *testing.T, name string, got, want api.Digest) {
	t.Helper()
	if got != want {
		t.Errorf("%s is %x, not %x", name, got, want)
	}
}

func digestOf(t *testing.T, digits string) api.Digest {
	t.Helper()
	b, err := hex.DecodeString(digits)
	if err != nil || len(b) != len(api.Digest{}) {
		t.Fatal(digits, "is no sum")
	}
	return api.Digest(b)
}

// P4.1

func TestSumOfKnownTexts(t *testing.T) {
	for _, c := range []struct{ text, want string }{
		{"", "e3b0c44298fc1c149afbf4c8996fb92427ae41e4649b934ca495991b7852b855"},
		{"a", "ca978112ca1bbdcafac231b39a23dc4da786eff8147c4e72b9807785afee48bb"},
		{"abc", "ba7816bf8f01cfea414140de5dae2223b00361a396177a9cb410ff61f20015ad"},
		{"abcdbcdecdefdefgefghfghighijhijkijkljklmklmnlmnomnopnopq", "248d6a61d20638b8e5c026930c3e6039a33ce45964ff2167f6ecedd419db06c1"},
		{"abcdefghbcdefghicdefghijdefghijkefghijklfghijklmghijklmnhijklmnoijklmnopjklmnopqklmnopqrlmnopqrsmnopqrstnopqrstu", "cf5b16a778af8380036ce59e7b0492370b249b11e8f07a51afac45037afee9d1"},
		{strings.Repeat("a", 1000000), "cdc76e5c9914fb9281a1c7e284d73e67f1809a48a497200e046d39ccc7112cd0"},
	} {
		expect(t, "the sum of a known text", sha.Sum(c.text), digestOf(t, c.want))
	}
}

// The ends of words, of the room for a length, and of blocks are all among these lengths.
func TestSumOfEveryLength(t *testing.T) {
	for n := range 64*6 + 2 {
		for name, s := range map[string]string{
			"mixed bytes":    text(n, 1),
			"bytes 0":        strings.Repeat("\x00", n),
			"bytes 128":      strings.Repeat("\x80", n),
			"bytes 255":      strings.Repeat("\xff", n),
			"letters beside": strings.Repeat("é", n)[:n],
		} {
			if got, want := sha.Sum(s), reference(s); got != want {
				t.Errorf("the sum of %d %s is %x, not %x", n, name, got, want)
			}
		}
	}
}

func TestSumOfEachByte(t *testing.T) {
	for b := range 256 {
		s := string([]byte{byte(b)})
		expect(t, "the sum of one byte", sha.Sum(s), reference(s))
		s = strings.Repeat("x", 63) + s + "y"
		expect(t, "the sum of a byte at the end of a block", sha.Sum(s), reference(s))
	}
}

func TestSumOfLongTexts(t *testing.T) {
	for _, n := range []int{1<<13 - 1, 1 << 13, 1<<16 - 9, 1<<16 + 1, 1<<21 - 1, 1 << 21, 1<<21 + 57} {
		s := text(n, 2)
		expect(t, "the sum of a long text", sha.Sum(s), reference(s))
	}
}

// From 2^29 bytes on, the number of bits has more than four bytes.
func TestSumOfMoreBitsThanAWordCounts(t *testing.T) {
	part := text(1<<20, 3)
	var x sha.Sums
	want := sha256.New()
	for range 1<<9 - 1 {
		x.Write(part)
		want.Write([]byte(part))
	}
	for _, n := range []int{1<<20 - 1, 1, 1} {
		x.Write(part[:n])
		want.Write([]byte(part[:n]))
		expect(t, "the sum of about 2^29 bytes", x.Sum(), api.Digest(want.Sum(nil)))
	}
	if x.Len() != 1<<29+1 {
		t.Error("Len is", x.Len())
	}
}

// P4.2

func TestSumsAllAlong(t *testing.T) {
	s := text(700, 4)
	var x sha.Sums
	for n := range len(s) {
		if x.Len() != uint64(n) {
			t.Fatalf("Len behind %d bytes is %d", n, x.Len())
		}
		expect(t, "the sum so far", x.Sum(), reference(s[:n]))
		expect(t, "the sum so far, asked again", x.Sum(), reference(s[:n]))
		x.Write(s[n : n+1])
	}
	expect(t, "the sum of all", x.Sum(), reference(s))
}

func TestSumsOfTheZeroValue(t *testing.T) {
	var x sha.Sums
	if x.Len() != 0 {
		t.Error("Len of the zero value is", x.Len())
	}
	expect(t, "the sum of the zero value", x.Sum(), reference(""))
	x.Write("")
	if x.Len() != 0 {
		t.Error("Len behind an empty text is", x.Len())
	}
	expect(t, "the sum behind an empty text", x.Sum(), reference(""))
	x.Write("abc")
	expect(t, "the sum behind a text", x.Sum(), reference("abc"))
	expect(t, "the sum of new Sums", new(sha.Sums).Sum(), reference(""))
}

func TestSumsOfNil(t *testing.T) {
	var x *sha.Sums
	for range 2 {
		if x.Len() != 0 {
			t.Error("Len of nil is", x.Len())
		}
		expect(t, "the sum of nil", x.Sum(), api.Digest{})
		x.Write(text(100, 5))
	}
}

func TestSumsAreCopiedWhole(t *testing.T) {
	for _, n := range []int{0, 1, 55, 56, 63, 64, 65, 130} {
		s, more, other := text(n, 6), text(70, 7), text(90, 8)
		var x sha.Sums
		x.Write(s)
		y := x
		x.Write(more)
		y.Write(other)
		expect(t, "the sum of the first", x.Sum(), reference(s+more))
		expect(t, "the sum of its copy", y.Sum(), reference(s+other))
		if x.Len() != uint64(n+70) || y.Len() != uint64(n+90) {
			t.Error("Len of a copy, or of what it was copied from:", x.Len(), y.Len())
		}
	}
}

func TestTwoSumsBesideEachOther(t *testing.T) {
	var x, y sha.Sums
	a, b := text(300, 9), text(300, 10)
	for i := range len(a) {
		x.Write(a[i : i+1])
		y.Write(b[i : i+1])
	}
	expect(t, "the sum of the first", x.Sum(), reference(a))
	expect(t, "the sum of the second", y.Sum(), reference(b))
}

// P4.3

// measured is the bytes that Tagged sums: all of a list, each behind its length.
func measured(list ...string) string {
	var b []byte
	for _, s := range list {
		b = append(binary.BigEndian.AppendUint32(b, uint32(len(s))), s...)
	}
	return string(b)
}

// lists are tags with their parts.
func lists() [][]string {
	all := [][]string{
		{""}, {"t"}, {"", ""}, {"", "", ""}, {"t", ""}, {"", "t"}, {"t", "x"}, {"tx"}, {"t", "x", ""}, {"t", "", "x"},
		{"t", "ab", "c"}, {"t", "a", "bc"}, {"t", "abc"}, {"ta", "bc"}, {"t", "a", "b", "c"}, {"t", "c", "ab"},
		{"t", "\x00\x00\x00\x01x"}, {"t\x00\x00\x00\x01x"}, {"\x00\x00\x00\x00"}, {"t", "\x00\x00\x00\x00"}, {"\x80"}, {"\xff", "\xfe"},
	}
	for _, n := range []int{47, 48, 51, 52, 55, 56, 59, 60, 63, 64, 255, 256, 65535, 65536} {
		all = append(all, []string{"long", text(n, 11)}, []string{text(n, 12), "x"}, []string{"long", text(n, 11), text(n, 13)})
	}
	many := []string{"many"}
	for n := range 300 {
		many = append(many, text(n%70, 14))
	}
	return append(all, many)
}

func TestTagged(t *testing.T) {
	expect(t, "Tagged of a tag and a part", sha.Tagged("t", "x"), reference("\x00\x00\x00\x01t\x00\x00\x00\x01x"))
	expect(t, "Tagged of a tag alone", sha.Tagged("tag"), reference("\x00\x00\x00\x03tag"))
	expect(t, "Tagged of nothing", sha.Tagged(""), reference("\x00\x00\x00\x00"))
	expect(t, "Tagged of no list", sha.Tagged("t", []string(nil)...), sha.Tagged("t", []string{}...))
	for _, l := range lists() {
		expect(t, "Tagged", sha.Tagged(l[0], l[1:]...), reference(measured(l...)))
	}
}

func TestTaggedOfALengthOfFourBytes(t *testing.T) {
	for _, n := range []int{1<<24 - 1, 1 << 24, 1<<24 + 1<<16 + 1<<8 + 1} {
		s := strings.Repeat("a", n)
		expect(t, "Tagged of a long part", sha.Tagged("t", s), reference(measured("t", s)))
		expect(t, "Tagged of a long tag", sha.Tagged(s), reference(measured(s)))
	}
}

func TestTaggedLeavesItsPartsAlone(t *testing.T) {
	room := []string{"a", "b", "kept", "kept too"}
	first := sha.Tagged("t", room[:2]...)
	if strings.Join(room, " ") != "a b kept kept too" {
		t.Error("Tagged changed its parts to", room)
	}
	expect(t, "Tagged, asked again", sha.Tagged("t", room[:2]...), first)
}

// P4.4

func TestLow(t *testing.T) {
	for _, c := range []struct {
		sum  api.Digest
		want uint64
	}{
		{api.Digest{}, 0},
		{api.Digest{1, 2}, 513},
		{api.Digest{1, 2, 3, 4, 5, 6, 7, 8}, 0x0807060504030201},
		{api.Digest{7: 1}, 1 << 56},
		{api.Digest{7: 128}, 1 << 63},
		{api.Digest{8: 255, 31: 255}, 0},
		{api.Digest{255, 255, 255, 255, 255, 255, 255, 255, 1}, math.MaxUint64},
		{sha.Sum("abc"), 0xeacf018fbf1678ba},
	} {
		if got := sha.Low(c.sum); got != c.want {
			t.Errorf("Low of %x is %x, not %x", c.sum, got, c.want)
		}
	}
}

func TestLowOfEachByte(t *testing.T) {
	for i := range len(api.Digest{}) {
		d := api.Digest{}
		d[i] = 0xa5
		want := uint64(0)
		if i < 8 {
			want = 0xa5 << (8 * i)
		}
		if got := sha.Low(d); got != want {
			t.Errorf("Low of the byte a5 in place %d is %x, not %x", i, got, want)
		}
	}
}

// P4.5

func TestASumDoesNotHangOnParts(t *testing.T) {
	s := text(200, 15)
	want := sha.Sum(s)
	for i := range len(s) + 1 {
		for j := i; j <= len(s); j++ {
			var x sha.Sums
			x.Write(s[:i])
			x.Write(s[i:j])
			x.Write(s[j:])
			if x.Sum() != want || x.Len() != uint64(len(s)) {
				t.Fatalf("cut at %d and %d: the sum of %d bytes is %x, not %x", i, j, x.Len(), x.Sum(), want)
			}
		}
	}
}

func TestASumDoesNotHangOnPartsOfAnySize(t *testing.T) {
	s := text(5000, 16)
	want := reference(s)
	r := rand.New(rand.NewSource(17))
	for range 300 {
		var x sha.Sums
		for rest := s; rest != ""; {
			n := min(r.Intn(1+r.Intn(400)), len(rest))
			x.Write(rest[:n])
			if r.Intn(4) == 0 {
				x.Sum()
			}
			rest = rest[n:]
		}
		expect(t, "the sum of parts", x.Sum(), want)
	}
}

func TestTaggedOfUnlikeLists(t *testing.T) {
	all := lists()
	for i, a := range all {
		for _, b := range all[:i] {
			if measured(a...) == measured(b...) || sha.Tagged(a[0], a[1:]...) == sha.Tagged(b[0], b[1:]...) {
				t.Errorf("Tagged of %.60q and of %.60q are alike", a, b)
			}
		}
	}
}

// One that is asked again and again, with others between, answers the same.
func TestSumsHangOnTheirBytesAlone(t *testing.T) {
	for n := range 130 {
		s := text(n, 18)
		first := sha.Sum(s)
		sha.Sum(text(n+1, 19))
		sha.Tagged(s, s)
		expect(t, "the sum, asked again", sha.Sum(s), first)
	}
}
