package prg_test

import (
	"crypto/sha256"
	"encoding/hex"
	"math"
	"math/rand"
	"slices"
	"testing"

	"trefoil/api"
	"trefoil/bits"
	"trefoil/chacha"
	"trefoil/prg"
)

const (
	end     = 1 << 30 // behind the stream's last byte
	topLane = math.MaxUint32
)

// rising is the seed of the bytes 0, 1, 2 ..
func rising() api.Seed {
	var seed api.Seed
	for i := range seed {
		seed[i] = byte(i)
	}
	return seed
}

func anySeed(r *rand.Rand) api.Seed {
	var seed api.Seed
	r.Read(seed[:])
	return seed
}

// slow is a stream told byte by byte, each of the block that it lies in.
type slow struct {
	seed   api.Seed
	nonce  string
	number int
	block  string
}

func slowly(seed api.Seed, lane uint32) *slow {
	nonce := string([]byte{byte(lane), byte(lane >> 8), byte(lane >> 16), byte(lane >> 24)}) + "\x00\x00\x00\x00\x00\x00\x00\x00"
	return &slow{seed: seed, nonce: nonce, number: -1}
}

func (x *slow) byteAt(i int) byte {
	if i/64 != x.number {
		block, code := chacha.Block(x.seed, x.nonce, uint32(i/64))
		if code != api.OK {
			panic(code)
		}
		x.number, x.block = i/64, block
	}
	return x.block[i%64]
}

func (x *slow) bytes(from, n int) string {
	var l []byte
	for i := range n {
		l = append(l, x.byteAt(from+i))
	}
	return string(l)
}

func (x *slow) words(from, n int) []uint64 {
	l := make([]uint64, n)
	for i := range n {
		for k := 7; k >= 0; k-- {
			l[i] = l[i]*256 + uint64(x.byteAt(8*(from+i)+k))
		}
	}
	return l
}

func (x *slow) bits(from, n int) []bool {
	l := make([]bool, n)
	for i := range n {
		l[i] = x.byteAt((from+i)/8)>>((from+i)%8)%2 == 1
	}
	return l
}

// sameBytes, sameWords and sameBits ask for a part, and hold it against the slow one.
func sameBytes(t *testing.T, seed api.Seed, lane uint32, from, n int) {
	t.Helper()
	s, code := prg.Bytes(seed, lane, from, n)
	if code != api.OK || s != slowly(seed, lane).bytes(from, n) {
		t.Fatalf("Bytes(%x, %d, %d, %d) is %x, %d", seed, lane, from, n, s, code)
	}
}

func sameWords(t *testing.T, seed api.Seed, lane uint32, from, n int) {
	t.Helper()
	l, code := prg.Words(seed, lane, from, n)
	if code != api.OK || !slices.Equal(l, slowly(seed, lane).words(from, n)) {
		t.Fatalf("Words(%x, %d, %d, %d) is %x, %d", seed, lane, from, n, l, code)
	}
}

func sameBits(t *testing.T, seed api.Seed, lane uint32, from, n int) {
	t.Helper()
	v, code := prg.Bits(seed, lane, from, n)
	if code != api.OK || v.Len() != n || !slices.Equal(v.Bools(), slowly(seed, lane).bits(from, n)) {
		t.Fatalf("Bits(%x, %d, %d, %d) is %x, %d", seed, lane, from, n, v.Raw(), code)
	}
}

// P7.1

func TestBytesOfKnownStreams(t *testing.T) {
	for _, c := range []struct {
		seed    api.Seed
		lane    uint32
		from, n int
		want    string
	}{
		{rising(), 5, 0, 32, "f84e3face34bb5941aab01082aadad99cd9183cf6126bf90fdb2aeb1fcacd9f2"},
		{rising(), 5, end - 64, 64, "a58938086a2bd8357c503007c70c7c0cde62dacadd3ea3fd8d13ff1bc218f97340d1536954a736afa9f3b6faeedd50031a3c44063b7f56ee039242063e799ec6"},
		{rising(), 5, end - 4, 4, "3e799ec6"},
		{rising(), topLane, end - 64, 64, "34e350fd5b483044092a8eb1887fbb1109111f0f0fbd539294ddb0cc42e7a7add3d43d423420145f2dac66dda132f4175009ab104bf52f3aa6152224b327176a"},
		{rising(), 0x01020304, 64010, 32, "00635e5eef4329e94b0724d1c93f7870e725145e83793061d362112ca4b367d2"},
		{api.Seed{}, 0, 1 << 27, 16, "819a380ed2e25f9b3a48f3745e08b98e"},
	} {
		s, code := prg.Bytes(c.seed, c.lane, c.from, c.n)
		if got := hex.EncodeToString([]byte(s)); code != api.OK || got != c.want {
			t.Errorf("Bytes(%x, %d, %d, %d) is %s, %d, not %s", c.seed, c.lane, c.from, c.n, got, code, c.want)
		}
	}
}

func TestBytesOfAKnownSum(t *testing.T) {
	s, code := prg.Bytes(rising(), 5, 193, 1<<15)
	sum := sha256.Sum256([]byte(s))
	if got := hex.EncodeToString(sum[:]); code != api.OK || got != "7bf7ee31fbed826bfd065b5a87fdced73007b8052fd6ddabf56d079d06d4dbd0" {
		t.Errorf("the sum of 2^15 bytes is %s, %d", got, code)
	}
}

func TestWordsOfAKnownStream(t *testing.T) {
	l, code := prg.Words(rising(), 5, 1, 2)
	if code != api.OK || !slices.Equal(l, []uint64{0x99adad2a0801ab1a, 0x90bf2661cf8391cd}) {
		t.Errorf("Words is %x, %d", l, code)
	}
	l, code = prg.Words(api.Seed{}, 0, 1<<24, 1)
	if code != api.OK || !slices.Equal(l, []uint64{0x9b5fe2d20e389a81}) {
		t.Errorf("Words is %x, %d", l, code)
	}
}

func TestBitsOfAKnownStream(t *testing.T) {
	for _, c := range []struct {
		from, n int
		want    []uint64
	}{{0, 8, []uint64{0xf8}}, {3, 5, []uint64{0x1f}}, {3, 6, []uint64{0x1f}}, {4, 8, []uint64{0xef}}, {8, 4, []uint64{0xe}}, {64, 72, []uint64{0x99adad2a0801ab1a, 0xcd}}} {
		v, code := prg.Bits(rising(), 5, c.from, c.n)
		if code != api.OK || v.Len() != c.n || !slices.Equal(v.Raw(), c.want) {
			t.Errorf("Bits from %d, %d of them, is %x, %d", c.from, c.n, v.Raw(), code)
		}
	}
	v, code := prg.Bits(api.Seed{}, 0, end, 16) // the byte 2^27, not the end of the stream
	if code != api.OK || !slices.Equal(v.Raw(), []uint64{0x9a81}) {
		t.Errorf("Bits is %x, %d", v.Raw(), code)
	}
}

func TestPartsOfAllSmallPlaces(t *testing.T) {
	seed := rising()
	for from := range 131 {
		for _, n := range []int{0, 1, 2, 7, 8, 9, 63, 64, 65, 127, 128, 129} {
			sameBytes(t, seed, 7, from, n)
			sameWords(t, seed, 7, from, n)
			sameBits(t, seed, 7, from, n)
		}
	}
}

func TestPartsOfDrawnPlaces(t *testing.T) {
	r := rand.New(rand.NewSource(1))
	for range 2000 {
		seed, lane, n := anySeed(r), r.Uint32(), r.Intn(300)
		sameBytes(t, seed, lane, r.Intn(end-n+1), n)
		sameWords(t, seed, lane, r.Intn(end/8-n+1), n)
		sameBits(t, seed, lane, r.Intn(end+1), n)
	}
}

func TestPartsAtTheEdges(t *testing.T) {
	for _, lane := range []uint32{0, 1, 255, 1 << 31, topLane} {
		for _, c := range [][2]int{{0, 1 << 15}, {1, 1 << 15}, {63, 1 << 15}, {end - 1<<15, 1 << 15}, {end - 1, 1}, {end - 1, 0}, {end, 0}, {end - 65, 65}} {
			sameBytes(t, rising(), lane, c[0], c[1])
		}
		for _, c := range [][2]int{{0, 1 << 12}, {7, 1 << 12}, {1<<27 - 1<<12, 1 << 12}, {1<<27 - 1, 1}, {1 << 27, 0}} {
			sameWords(t, rising(), lane, c[0], c[1])
		}
		for _, c := range [][2]int{{0, 1 << 16}, {7, 1 << 16}, {511, 1 << 16}, {end, 1 << 16}, {end, 1}, {end, 0}, {end - 1, 1}, {end - 1, 1 << 16}} {
			sameBits(t, rising(), lane, c[0], c[1])
		}
	}
}

// noBytes, noWords and noBits ask for a part that may not be asked for.
func noBytes(t *testing.T, from, n int) {
	t.Helper()
	if s, code := prg.Bytes(rising(), 1, from, n); s != "" || code != api.ErrLimit {
		t.Errorf("Bytes from %d, %d of them, is %d bytes, %d", from, n, len(s), code)
	}
}

func noWords(t *testing.T, from, n int) {
	t.Helper()
	if l, code := prg.Words(rising(), 1, from, n); len(l) != 0 || code != api.ErrLimit {
		t.Errorf("Words from %d, %d of them, is %d words, %d", from, n, len(l), code)
	}
}

func noBits(t *testing.T, from, n int) {
	t.Helper()
	if v, code := prg.Bits(rising(), 1, from, n); !bits.Equal(v, bits.Vec{}) || code != api.ErrLimit {
		t.Errorf("Bits from %d, %d of them, is %d bits, %d", from, n, v.Len(), code)
	}
}

func TestPartsBeyondTheLimits(t *testing.T) {
	for _, wrong := range []int{-1, -2, -63, -64, -1 << 31, math.MinInt, math.MinInt + 1, math.MaxInt, math.MaxInt - 1, math.MaxInt/8 + 1, 1 << 31, 1 << 32, 1 << 59, 1 << 61} {
		for _, other := range []int{0, 1, 64, 1 << 12, -1, math.MinInt, math.MaxInt} {
			for _, no := range []func(*testing.T, int, int){noBytes, noWords, noBits} {
				no(t, wrong, other)
				no(t, other, wrong)
			}
		}
	}
	for _, c := range [][2]int{{0, 1<<15 + 1}, {end, 1}, {end - 1, 2}, {end + 1, 0}, {end - 1<<15 + 1, 1 << 15}, {end - 1<<15 - 1, 1<<15 + 1}} {
		noBytes(t, c[0], c[1])
	}
	for _, c := range [][2]int{{0, 1<<12 + 1}, {1<<27 + 1, 0}, {1 << 27, 1}, {1<<27 - 1, 2}, {1<<27 - 1<<12 + 1, 1 << 12}, {1 << 30, 1}} {
		noWords(t, c[0], c[1])
	}
	for _, c := range [][2]int{{0, 1<<16 + 1}, {end + 1, 0}, {end + 1, 1}, {end + 8, 0}, {end, 1<<16 + 1}} {
		noBits(t, c[0], c[1])
	}
}

func TestPartsAreNewMemory(t *testing.T) {
	seed := rising()
	l, _ := prg.Words(seed, 2, 0, 8)
	other, _ := prg.Words(seed, 2, 0, 8)
	clear(l[:cap(l)])
	again, _ := prg.Words(seed, 2, 0, 8)
	if want := slowly(rising(), 2).words(0, 8); !slices.Equal(other, want) || !slices.Equal(again, want) {
		t.Error("words that were told are kept")
	}
	v, _ := prg.Bits(seed, 2, 0, 100)
	clear(v.Raw())
	if !slices.Equal(v.Bools(), slowly(rising(), 2).bits(0, 100)) || seed != rising() {
		t.Error("bits that were told are changed")
	}
}

// P7.2

func TestChildOfKnownSeeds(t *testing.T) {
	for _, c := range []struct {
		seed   api.Seed
		number uint64
		want   string
	}{
		{rising(), 0, "87ce674bf4fbc5d5be3817089af1ff40964488d060ac10cbf700af63b5ab85af"},
		{rising(), 1, "126a0940c8311394280cc99d46caf18e47398be98c699db8424a2e80dd2d06c0"},
		{rising(), math.MaxUint64, "2781d1c655ae513fcbaba764285180b734e51674b8efdd53891019f3c3ed2ee7"},
		{rising(), 0x0102030405060708, "c455f067ef1c952e7e73193edd067fef4c45b0dead767b03ab0722e8d9e04a8f"},
		{api.Seed{}, 7, "1d1c2af28cdda9c3e4d3ffc6eb288f9e1a8aac97cd5a4d0d49a3c8af35255292"},
	} {
		child := prg.Child(c.seed, c.number)
		if got := hex.EncodeToString(child[:]); got != c.want {
			t.Errorf("Child(%x, %d) is %s, not %s", c.seed, c.number, got, c.want)
		}
	}
}

func TestChildOfDrawnSeeds(t *testing.T) {
	r := rand.New(rand.NewSource(2))
	seen := map[api.Seed]int{}
	for i := range 1000 {
		seed, number := anySeed(r), r.Uint64()>>r.Intn(64)
		nonce := []byte{255, 255, 255, 255}
		for k := range 8 {
			nonce = append(nonce, byte(number>>(8*k)))
		}
		block, code := chacha.Block(seed, string(nonce), 0)
		child := prg.Child(seed, number)
		if code != api.OK || string(child[:]) != block[:32] {
			t.Fatalf("Child(%x, %d) is %x, not %x", seed, number, child, block[:32])
		}
		seen[child] = i
		seen[seed] = i
	}
	if len(seen) != 2000 {
		t.Errorf("of 1000 seeds and their children there are %d", len(seen))
	}
}

func TestChildOfEachBit(t *testing.T) {
	seen := map[api.Seed]int{prg.Child(rising(), 0): -1}
	for i := range 64 {
		seen[prg.Child(rising(), 1<<i)] = i
	}
	for i := range 256 {
		seed := rising()
		seed[i/8] ^= 1 << (i % 8)
		seen[prg.Child(seed, 0)] = 64 + i
	}
	if len(seen) != 1+64+256 {
		t.Errorf("%d children are unlike, not %d", len(seen), 1+64+256)
	}
}

// P7.5, of the parts

func TestPartsHangTogether(t *testing.T) {
	r := rand.New(rand.NewSource(3))
	for range 300 {
		seed, lane := anySeed(r), r.Uint32()
		from := r.Intn(1 << 26)
		whole, _ := prg.Bytes(seed, lane, from, 1000)
		a := r.Intn(1000)
		n := r.Intn(1000 - a)
		if part, code := prg.Bytes(seed, lane, from+a, n); code != api.OK || part != whole[a:a+n] {
			t.Fatalf("the bytes from %d on hang on where they are asked for", from+a)
		}
		all, _ := prg.Words(seed, lane, from, 1000)
		if part, code := prg.Words(seed, lane, from+a, n); code != api.OK || !slices.Equal(part, all[a:a+n]) {
			t.Fatalf("the words from %d on hang on where they are asked for", from+a)
		}
		truths, _ := prg.Bits(seed, lane, from, 1000)
		part, code := prg.Bits(seed, lane, from+a, n)
		if want, _ := truths.Part(a, a+n); code != api.OK || !bits.Equal(part, want) {
			t.Fatalf("the bits from %d on hang on where they are asked for", from+a)
		}
	}
}

func TestBytesWordsAndBitsAreOne(t *testing.T) {
	r := rand.New(rand.NewSource(4))
	for range 300 {
		seed, lane, from, n := anySeed(r), r.Uint32(), r.Intn(1<<24), r.Intn(100)
		words, _ := prg.Words(seed, lane, from, n)
		text, _ := prg.Bytes(seed, lane, 8*from, 8*n)
		v, code := prg.Bits(seed, lane, 64*from, 64*n)
		if code != api.OK || v.Bytes() != text || !slices.Equal(v.Raw(), words) {
			t.Fatalf("the words from %d on, %d of them, aren't those of the bytes or bits", from, n)
		}
	}
}

func TestLanesAndSeedsAreUnlike(t *testing.T) {
	seen := map[string]int{}
	for i := range 32 {
		s, _ := prg.Bytes(rising(), 1<<i, 0, 32)
		seen[s] = i
	}
	for i := range 256 {
		seed := rising()
		seed[i/8] ^= 1 << (i % 8)
		s, _ := prg.Bytes(seed, 0, 0, 32)
		seen[s] = i
	}
	if len(seen) != 32+256 {
		t.Errorf("%d streams are unlike, not %d", len(seen), 32+256)
	}
}
