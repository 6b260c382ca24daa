package chacha_test

import (
	"crypto/sha256"
	"encoding/hex"
	"math"
	"math/rand"
	"strings"
	"testing"

	"trefoil/api"
	"trefoil/chacha"
)

const top = math.MaxUint32 // the counter's last number

func raw(t *testing.T, digits string) string {
	t.Helper()
	b, err := hex.DecodeString(digits)
	if err != nil {
		t.Fatal(err)
	}
	return string(b)
}

func seedOf(t *testing.T, digits string) api.Seed {
	t.Helper()
	b := raw(t, digits)
	if len(b) != len(api.Seed{}) {
		t.Fatal(digits, "is no key")
	}
	return api.Seed([]byte(b))
}

// text makes n bytes of all kinds, 0 and what is no UTF-8 among them.
func text(r *rand.Rand, n int) string {
	b := make([]byte, n)
	for i := range b {
		b[i] = byte(r.Intn(256))
	}
	return string(b)
}

func anyKey(r *rand.Rand) api.Seed { return api.Seed([]byte(text(r, 32))) }

// rising is the key of the bytes 0, 1, 2 ..
func rising() api.Seed {
	var key api.Seed
	for i := range key {
		key[i] = byte(i)
	}
	return key
}

func block(t *testing.T, key api.Seed, nonce string, counter uint32) string {
	t.Helper()
	s, code := chacha.Block(key, nonce, counter)
	if code != api.OK {
		t.Fatalf("Block of a nonce of %d bytes and the counter %d: %d", len(nonce), counter, code)
	}
	return s
}

func stream(t *testing.T, key api.Seed, nonce string, counter uint32, n int) string {
	t.Helper()
	s, code := chacha.Stream(key, nonce, counter, n)
	if code != api.OK || len(s) != n {
		t.Fatalf("Stream of %d bytes from the counter %d: %d bytes, %d", n, counter, len(s), code)
	}
	return s
}

func mix(t *testing.T, key api.Seed, nonce string, counter uint32, s string) string {
	t.Helper()
	mixed, code := chacha.Mix(key, nonce, counter, s)
	if code != api.OK || len(mixed) != len(s) {
		t.Fatalf("Mix of %d bytes from the counter %d: %d bytes, %d", len(s), counter, len(mixed), code)
	}
	return mixed
}

// P5.1

func TestQuarterOfKnownWords(t *testing.T) {
	for _, c := range []struct{ in, want [4]uint32 }{
		{[4]uint32{0x11111111, 0x01020304, 0x9b8d6f43, 0x01234567}, [4]uint32{0xea2a92f4, 0xcb1cf8ce, 0x4581472e, 0x5881c4bb}},
		{[4]uint32{0x516461b1, 0x2a5f714c, 0x53372767, 0x3d631689}, [4]uint32{0xbdb886dc, 0xcfacafd2, 0xe46bea80, 0xccc07c79}},
		{[4]uint32{}, [4]uint32{}},
	} {
		if got := quarterOf(c.in); got != c.want {
			t.Errorf("Quarter of %x is %x, not %x", c.in, got, c.want)
		}
	}
}

func quarterOf(w [4]uint32) [4]uint32 {
	a, b, c, d := chacha.Quarter(w[0], w[1], w[2], w[3])
	return [4]uint32{a, b, c, d}
}

func left(w uint32, n int) uint32 { return w<<n | w>>(32-n) }

// slowQuarter takes the chapter's steps one by one.
func slowQuarter(w [4]uint32) [4]uint32 {
	for _, s := range []struct{ sum, by, turned, n int }{{0, 1, 3, 16}, {2, 3, 1, 12}, {0, 1, 3, 8}, {2, 3, 1, 7}} {
		w[s.sum] += w[s.by]
		w[s.turned] = left(w[s.turned]^w[s.sum], s.n)
	}
	return w
}

// someWords are words of which sums are cut, all and single bits, and others.
func someWords() [][4]uint32 {
	edges := []uint32{0, 1, 0x7fffffff, 0x80000000, top}
	var all [][4]uint32
	for _, a := range edges {
		for _, b := range edges {
			for _, c := range edges {
				for _, d := range edges {
					all = append(all, [4]uint32{a, b, c, d})
				}
			}
		}
	}
	for place := range 4 {
		for bit := range 32 {
			var w [4]uint32
			w[place] = 1 << bit
			all = append(all, w)
		}
	}
	r := rand.New(rand.NewSource(1))
	for range 5000 {
		all = append(all, [4]uint32{r.Uint32(), r.Uint32(), r.Uint32(), r.Uint32()})
	}
	return all
}

func TestQuarterStepByStep(t *testing.T) {
	for _, w := range someWords() {
		if got, want := quarterOf(w), slowQuarter(w); got != want {
			t.Fatalf("Quarter of %x is %x, not %x", w, got, want)
		}
	}
}

// P5.2

func TestBlockOfKnownKeys(t *testing.T) {
	zeros, none := strings.Repeat("00", 32), strings.Repeat("00", 12)
	counted := "000102030405060708090a0b0c0d0e0f101112131415161718191a1b1c1d1e1f"
	for _, c := range []struct {
		key, nonce string
		counter    uint32
		want       string
	}{
		{zeros, none, 0, "76b8e0ada0f13d90405d6ae55386bd28bdd219b8a08ded1aa836efcc8b770dc7da41597c5157488d7724e03fb8d84a376a43b8f41518a11cc387b669b2ee6586"},
		{zeros, none, 1, "9f07e7be5551387a98ba977c732d080dcb0f29a048e3656912c6533e32ee7aed29b721769ce64e43d57133b074d839d531ed1f28510afb45ace10a1f4b794d6f"},
		{zeros[:62] + "01", none, 1, "3aeb5224ecf849929b9d828db1ced4dd832025e8018b8160b82284f3c949aa5a8eca00bbb4a73bdad192b5c42f73f2fd4e273644c8b36125a64addeb006c13a0"},
		{"00ff" + zeros[:60], none, 2, "72d54dfbf12ec44b362692df94137f328fea8da73990265ec1bbbea1ae9af0ca13b25aa26cb4a648cb9b9d1be65b2c0924a66c54d545ec1b7374f4872e99f096"},
		{zeros, none[:22] + "02", 0, "c2c64d378cd536374ae204b9ef933fcd1a8b2288b3dfa49672ab765b54ee27c78a970e0e955c14f3a88e741b97c286f75f8fc299e8148362fa198a39531bed6d"},
		{counted, "000000090000004a00000000", 1, "10f1e7e4d13b5915500fdd1fa32071c4c7d1f4c733c068030422aa9ac3d46c4ed2826446079faa0914c2d705d98b02a2b5129cd1de164eb9cbd083e8a2503c4e"},
		{strings.Repeat("ff", 32), strings.Repeat("ff", 12), top, "d72b21cfa4b6b0c41d61f62b8a11159c6a4f63bc56c2035796c7ad37811121bbec56d54a530f3a933dd28a50feb23bfaf64f405be985f3718bdf4683e96be749"},
		{counted, "0102030405060708090a0b0c", 0x12345678, "fb0b47eb62896c6aadd8233ef181bed5299be44aad21a61172d0f63e931b0e1401a39c85a09960d0f94de5729c542c5518c5d0576a5cc795d73fa737a5aaaa8a"},
	} {
		if got := block(t, seedOf(t, c.key), raw(t, c.nonce), c.counter); got != raw(t, c.want) {
			t.Errorf("Block of %s, %s, %d is %x, not %s", c.key, c.nonce, c.counter, got, c.want)
		}
	}
}

// slowBlock takes the chapter's words one by one.
func slowBlock(key api.Seed, nonce string, counter uint32) string {
	head := "expand 32-byte k" + string(key[:]) + string([]byte{byte(counter), byte(counter >> 8), byte(counter >> 16), byte(counter >> 24)}) + nonce
	var first [16]uint32
	for i := range len(head) {
		first[i/4] += uint32(head[i]) << (i % 4 * 8)
	}
	g := first
	for range 10 {
		for _, p := range [][4]int{{0, 4, 8, 12}, {1, 5, 9, 13}, {2, 6, 10, 14}, {3, 7, 11, 15}, {0, 5, 10, 15}, {1, 6, 11, 12}, {2, 7, 8, 13}, {3, 4, 9, 14}} {
			w := slowQuarter([4]uint32{g[p[0]], g[p[1]], g[p[2]], g[p[3]]})
			g[p[0]], g[p[1]], g[p[2]], g[p[3]] = w[0], w[1], w[2], w[3]
		}
	}
	var bytes []byte
	for i := range 16 {
		for k := range 4 {
			bytes = append(bytes, byte((g[i]+first[i])>>(8*k)))
		}
	}
	return string(bytes)
}

func TestBlockWordByWord(t *testing.T) {
	r := rand.New(rand.NewSource(2))
	for range 1000 {
		key, nonce, counter := anyKey(r), text(r, 12), r.Uint32()
		if got, want := block(t, key, nonce, counter), slowBlock(key, nonce, counter); got != want {
			t.Fatalf("Block of %x, %x, %d is %x, not %x", key, nonce, counter, got, want)
		}
	}
}

func TestBlockOfEachByte(t *testing.T) {
	for i := range 32 {
		var key api.Seed
		key[i] = 0x81
		nonce := strings.Repeat("\x00", i%12) + "\xfe" + strings.Repeat("\x00", 11-i%12)
		counter := uint32(1) << i
		if got, want := block(t, key, nonce, counter), slowBlock(key, nonce, counter); got != want {
			t.Errorf("Block with a byte in place %d is %x, not %x", i, got, want)
		}
	}
}

func TestBlockOfAWrongNonce(t *testing.T) {
	for n := range 40 {
		if s, code := chacha.Block(rising(), strings.Repeat("n", n), 5); n != 12 && (s != "" || code != api.ErrShape) {
			t.Errorf("Block of a nonce of %d bytes: %x, %d", n, s, code)
		}
	}
	for _, nonce := range []string{strings.Repeat("é", 12), strings.Repeat("n", 1<<20), strings.Repeat("n", 256+12)} {
		if s, code := chacha.Block(rising(), nonce, top); s != "" || code != api.ErrShape {
			t.Errorf("Block of a nonce of %d bytes: %x, %d", len(nonce), s, code)
		}
	}
	block(t, rising(), strings.Repeat("é", 6), 0) // bytes are counted, not letters
}

// P5.3

func TestStreamOfKnownSums(t *testing.T) {
	for _, c := range []struct {
		counter uint32
		n       int
		want    string
	}{
		{7, api.MaxMsg, "46d950b44ddd6f05a2870023c69b9df9aa010105abd24a6b9ddcb27c3095cd49"},
		{top - 1023, api.MaxMsg, "26ddb0e55c00359365792730d13c67fe4e3599f6f924028f1410de1aaad2e295"},
		{7, 1000, "e64d16a139c9e85581263388ff087c732342d566757822fb312a4d5b9a8204ee"},
	} {
		sum := sha256.Sum256([]byte(stream(t, rising(), "\x01\x02\x03\x04\x05\x06\x07\x08\x09\x0a\x0b\x0c", c.counter, c.n)))
		if got := hex.EncodeToString(sum[:]); got != c.want {
			t.Errorf("the sum of %d bytes from the counter %d is %s, not %s", c.n, c.counter, got, c.want)
		}
	}
}

// slowStream lays block behind block, and cuts.
func slowStream(key api.Seed, nonce string, counter uint32, n int) string {
	s := ""
	for i := uint32(0); len(s) < n; i++ {
		s += slowBlock(key, nonce, counter+i)
	}
	return s[:n]
}

func TestStreamOfEveryLength(t *testing.T) {
	r := rand.New(rand.NewSource(3))
	for n := range 64*5 + 2 {
		for _, counter := range []uint32{0, 1, 255, 1<<31 - 1, top - 5} {
			key, nonce := anyKey(r), text(r, 12)
			if got, want := stream(t, key, nonce, counter, n), slowStream(key, nonce, counter, n); got != want {
				t.Fatalf("Stream of %d bytes from the counter %d is %x, not %x", n, counter, got, want)
			}
		}
	}
}

func TestStreamIsItsBlocks(t *testing.T) {
	nonce := chacha.Nonce(3, 4)
	s := stream(t, rising(), nonce, 9, 64*20)
	for i := range 20 {
		if s[64*i:64*i+64] != block(t, rising(), nonce, uint32(9+i)) {
			t.Errorf("the stream's block %d is another", i)
		}
	}
}

// ask is what Stream, and Mix of as many bytes, are asked for, and what they answer.
type ask struct {
	nonce   string
	counter uint32
	n       int
	want    api.Errno
}

func asks() []ask {
	good := strings.Repeat("n", 12)
	return []ask{
		{good, 0, 0, api.OK},
		{good, top, 0, api.OK},
		{good, top, 1, api.OK},
		{good, top, 64, api.OK},
		{good, top, 65, api.ErrCount},
		{good, top - 1, 128, api.OK},
		{good, top - 1, 129, api.ErrCount},
		{good, 0, api.MaxMsg, api.OK},
		{good, 0, api.MaxMsg + 1, api.ErrLimit},
		{good, top - 1023, api.MaxMsg, api.OK},
		{good, top - 1022, api.MaxMsg, api.ErrCount},
		{good, top - 1022, api.MaxMsg - 63, api.ErrCount},
		{good, top - 1022, api.MaxMsg - 64, api.OK},
		{good, top, api.MaxMsg, api.ErrCount},
		{good, top, api.MaxMsg + 1, api.ErrLimit},
		{good, top, 1 << 20, api.ErrLimit},
		{"", 0, 0, api.ErrShape},
		{good[1:], 0, 1, api.ErrShape},
		{good + "n", 0, 1, api.ErrShape},
		{good[1:], 0, api.MaxMsg + 1, api.ErrShape},
		{good + "n", top, 65, api.ErrShape},
		{strings.Repeat("é", 12), top, api.MaxMsg + 1, api.ErrShape},
	}
}

func TestStreamErrors(t *testing.T) {
	good := strings.Repeat("n", 12)
	for _, c := range append(asks(), ask{good, 0, -1, api.ErrLimit}, ask{good, top, -1, api.ErrLimit}, ask{good, 0, -64, api.ErrLimit},
		ask{good, 0, math.MinInt, api.ErrLimit}, ask{good, 0, math.MaxInt, api.ErrLimit}, ask{good, top, math.MaxInt - 63, api.ErrLimit}, ask{"", 0, -1, api.ErrShape}) {
		s, code := chacha.Stream(rising(), c.nonce, c.counter, c.n)
		if code != c.want || code != api.OK && s != "" || code == api.OK && len(s) != c.n {
			t.Errorf("Stream of %q, %d, %d: %d bytes, %d, not %d", c.nonce, c.counter, c.n, len(s), code, c.want)
		}
	}
}

func TestMixErrors(t *testing.T) {
	for _, c := range asks() {
		s, code := chacha.Mix(rising(), c.nonce, c.counter, strings.Repeat("t", c.n))
		if code != c.want || code != api.OK && s != "" || code == api.OK && len(s) != c.n {
			t.Errorf("Mix of %q, %d, %d bytes: %d bytes, %d, not %d", c.nonce, c.counter, c.n, len(s), code, c.want)
		}
	}
}

func TestMixOfAKnownText(t *testing.T) {
	s := "Ladies and Gentlemen of the class of '99: If I could offer you only one tip for the future, sunscreen would be it."
	want := raw(t, "6e2e359a2568f98041ba0728dd0d6981e97e7aec1d4360c20a27afccfd9fae0bf91b65c5524733ab8f593dabcd62b3571639d624e65152ab8f530c359f0861d807ca0dbf500d6a6156a38e088a22b65e52bc514d16ccf806818ce91ab77937365af90bbf74a35be6b40b8eedf2785e42874d")
	if got := mix(t, rising(), raw(t, "000000000000004a00000000"), 1, s); got != want {
		t.Errorf("Mix is %x, not %x", got, want)
	}
}

func TestMixIsTheTextAndTheStream(t *testing.T) {
	r := rand.New(rand.NewSource(4))
	for n := range 200 {
		key, nonce, counter, s := anyKey(r), text(r, 12), r.Uint32()>>1, text(r, n)
		mixed, turned := mix(t, key, nonce, counter, s), stream(t, key, nonce, counter, n)
		for i := range n {
			if mixed[i] != s[i]^turned[i] {
				t.Fatalf("the byte %d of %d is %x", i, n, mixed[i])
			}
		}
		if mix(t, key, nonce, counter, strings.Repeat("\x00", n)) != turned {
			t.Fatalf("%d bytes 0, mixed, aren't the stream", n)
		}
	}
}

// P5.4

func TestNonce(t *testing.T) {
	for _, c := range []struct {
		lane   uint32
		number uint64
		want   string
	}{
		{0, 0, "000000000000000000000000"},
		{1, 258, "010000000201000000000000"},
		{0x04030201, 0x0c0b0a0908070605, "0102030405060708090a0b0c"},
		{top, 0, "ffffffff0000000000000000"},
		{0, top, "00000000ffffffff00000000"},
		{0, top + 1, "000000000000000001000000"},
		{0, math.MaxUint64, "00000000ffffffffffffffff"},
		{0, 1 << 63, "000000000000000000000080"},
		{1 << 31, 1 << 31, "000000800000008000000000"},
	} {
		if got := hex.EncodeToString([]byte(chacha.Nonce(c.lane, c.number))); got != c.want {
			t.Errorf("Nonce of %x and %x is %s, not %s", c.lane, c.number, got, c.want)
		}
	}
}

func TestNonceOfEachBit(t *testing.T) {
	for bit := range 96 {
		lane, number := uint32(1)<<bit, uint64(0)
		if bit >= 32 {
			lane, number = 0, 1<<(bit-32)
		}
		var want [12]byte
		want[bit/8] = 1 << (bit % 8)
		if got := chacha.Nonce(lane, number); got != string(want[:]) {
			t.Errorf("Nonce of the bit %d is %x, not %x", bit, got, want)
		}
	}
}

// P5.5

func TestMixTwiceLeavesTheText(t *testing.T) {
	r := rand.New(rand.NewSource(5))
	for _, n := range []int{0, 1, 63, 64, 65, 127, 128, 129, 1000, api.MaxMsg - 1, api.MaxMsg} {
		for _, counter := range []uint32{0, 1 << 31, top - 1023} {
			key, nonce, s := anyKey(r), text(r, 12), text(r, n)
			once := mix(t, key, nonce, counter, s)
			if mix(t, key, nonce, counter, once) != s {
				t.Errorf("%d bytes mixed twice are others", n)
			}
			if n > 60 && once == s {
				t.Errorf("%d bytes mixed once are the same", n)
			}
		}
	}
}

func TestAStreamFromABlockOn(t *testing.T) {
	r := rand.New(rand.NewSource(6))
	for range 20 {
		key, nonce, n := anyKey(r), text(r, 12), r.Intn(2000)
		counter := top - 31 - r.Uint32()>>uint(r.Intn(31)+1)
		whole := stream(t, key, nonce, counter, n)
		for i := 0; 64*i <= n; i++ {
			if stream(t, key, nonce, counter+uint32(i), n-64*i) != whole[64*i:] {
				t.Fatalf("the stream of %d bytes from %d differs from its block %d on", n, counter, i)
			}
		}
		for cut := range n {
			if stream(t, key, nonce, counter, cut) != whole[:cut] {
				t.Fatalf("the first %d of %d bytes are others", cut, n)
			}
		}
	}
}

// undone takes the steps back, the last one first: b must come ahead of c, and d ahead of a, since they were turned by what those had become.
func undone(w [4]uint32) [4]uint32 {
	a, b, c, d := w[0], w[1], w[2], w[3]
	b, c = left(b, 32-7)^c, c-d
	d, a = left(d, 32-8)^a, a-b
	b, c = left(b, 32-12)^c, c-d
	d, a = left(d, 32-16)^a, a-b
	return [4]uint32{a, b, c, d}
}

func TestQuarterCanBeUndone(t *testing.T) {
	for _, w := range someWords() {
		if got := undone(quarterOf(w)); got != w {
			t.Fatalf("Quarter of %x, undone, is %x", w, got)
		}
		if got := quarterOf(undone(w)); got != w {
			t.Fatalf("%x, undone, is no word that Quarter turns to it, but to %x", w, got)
		}
	}
}

// What is asked again, with others between, answers the same, and a key that is handed in stays.
func TestAnswersHangOnArgumentsAlone(t *testing.T) {
	r := rand.New(rand.NewSource(7))
	for range 50 {
		key, nonce, counter, s := anyKey(r), text(r, 12), r.Uint32()>>1, text(r, 300)
		kept, keptText := key, strings.Clone(s)
		one, two, three := block(t, key, nonce, counter), stream(t, key, nonce, counter, 300), mix(t, key, nonce, counter, s)
		stream(t, anyKey(r), text(r, 12), 0, 100)
		if block(t, key, nonce, counter) != one || stream(t, key, nonce, counter, 300) != two || mix(t, key, nonce, counter, s) != three {
			t.Fatal("asked again, it answers otherwise")
		}
		if key != kept || s != keptText {
			t.Fatal("what was handed in has changed")
		}
	}
}
