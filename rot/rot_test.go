package rot_test

import (
	"crypto/sha256"
	"encoding/binary"
	"encoding/hex"
	"math"
	"math/rand"
	"slices"
	"testing"

	"trefoil/api"
	"trefoil/bits"
	"trefoil/rot"
)

const top = math.MaxUint64

// rising is the seed of the bytes 0, 1, 2 ..
func rising() api.Seed {
	var seed api.Seed
	for i := range seed {
		seed[i] = byte(i)
	}
	return seed
}

// full is the seed of all bits.
func full() api.Seed {
	var seed api.Seed
	for i := range seed {
		seed[i] = 255
	}
	return seed
}

func anySeed(r *rand.Rand) api.Seed {
	var seed api.Seed
	r.Read(seed[:])
	return seed
}

func anySeeds(r *rand.Rand, n int) []api.Seed {
	l := make([]api.Seed, n)
	for i := range l {
		l[i] = anySeed(r)
	}
	return l
}

func anyRow(r *rand.Rand) api.Row { return api.Row{r.Uint64(), r.Uint64()} }

func anyRows(r *rand.Rand, n int) []api.Row {
	l := make([]api.Row, n)
	for i := range l {
		l[i] = anyRow(r)
	}
	return l
}

func anyBits(r *rand.Rand, n int) bits.Vec {
	words := make([]uint64, (n+63)/64)
	for i := range words {
		words[i] = r.Uint64()
	}
	v, _ := bits.Words(n, words)
	return v
}

func blank(n int) bits.Vec {
	v, _ := bits.New(n)
	return v
}

func vec(l ...bool) bits.Vec {
	v, _ := bits.Of(l)
	return v
}

// hashed is the chapter's sum, by the library's SHA-256 and by bytes laid by hand.
func hashed(n uint64, r api.Row) api.Seed {
	text := []byte{0, 0, 0, 3, 'r', 'o', 't', 0, 0, 0, 8}
	text = binary.LittleEndian.AppendUint64(text, n)
	text = append(text, 0, 0, 0, 16)
	text = binary.LittleEndian.AppendUint64(text, r[0])
	text = binary.LittleEndian.AppendUint64(text, r[1])
	return sha256.Sum256(text)
}

// P18.1

// The sums were reckoned by another program.
func TestKnownHashes(t *testing.T) {
	for _, c := range []struct {
		n    uint64
		r    api.Row
		want string
	}{
		{0, api.Row{}, "88c000ee9c3d36289a2e32620cc7298967a2c9bb3847f78cca7aa039fce1fc79"},
		{0, api.Row{1, 0}, "ff470f8b8a23d17c1b2f13356cb0c452bf44c5340c244948e764a701e1f66dca"},
		{0, api.Row{0, 1}, "befb1e2bf67a195dee34d7fdbc45e579c81e359dcb49f7286ac928850a082a24"},
		{1, api.Row{}, "49eb49266c88d5cae8d17e389cb956af8731443882718ade0147b0ff4a00689b"},
		{258, api.Row{1, 2}, "2553fe0fa46f2e1fea5f8f9b26028b1b6b145461ab92e181de890bae9ae508b2"},
		{1<<26 - 1, api.Row{0x0123456789abcdef, 0xfedcba9876543210}, "be5e0b7f7564bfe636a2eb2d80537099e1ff8c7c93ac759b50ed165bfbb6631b"},
		{1 << 32, api.Row{top, 0}, "527e2b8cf48a35286a98a7d5a44185c74b877dd63cc2ef0375a1f397c2058401"},
		{0x0102030405060708, api.Row{0x1112131415161718, 0x2122232425262728}, "4cc7e3a405af3b0200f5a5f8f6b8e99466689ba73f13368efa492435744711f5"},
		{top, api.Row{top, top}, "1b4015cd0311879bc95158a4df7e082d3c8214a08aca77bae104f7597cf75ace"},
		{1 << 63, api.Row{1 << 63, 1 << 63}, "1ac372374873305a9f1dc71519d26d20930333429bbd5497e13b1b87e73a9000"},
	} {
		got := rot.Hash(c.n, c.r)
		if hex.EncodeToString(got[:]) != c.want {
			t.Errorf("Hash of %d and %x is %x", c.n, c.r, got)
		}
	}
}

// Each bit of the number and of the row is one of the bytes that are summed.
func TestHashesOfSingleBits(t *testing.T) {
	for i := range 64 {
		n := uint64(1) << i
		if got := rot.Hash(n, api.Row{5, 9}); got != hashed(n, api.Row{5, 9}) {
			t.Errorf("Hash of the number %d is %x", n, got)
		}
		for _, r := range []api.Row{{n, 0}, {0, n}} {
			if got := rot.Hash(7, r); got != hashed(7, r) {
				t.Errorf("Hash of the row %x is %x", r, got)
			}
		}
	}
}

func TestDrawnHashes(t *testing.T) {
	r := rand.New(rand.NewSource(1))
	for range 1000 {
		n, row := r.Uint64()>>r.Intn(64), anyRow(r)
		if got := rot.Hash(n, row); got != hashed(n, row) {
			t.Fatalf("Hash of %d and %x is %x", n, row, got)
		}
	}
}

// P18.2

// ruled makes rows of a rule, which the other program has, too.
func ruled(n int) []api.Row {
	l := make([]api.Row, n)
	for j := range l {
		k := uint64(j)
		l[j] = api.Row{k * 0x9e3779b97f4a7c15, k*k*0xc2b2ae3d27d4eb4f + 7}
	}
	return l
}

// sumOf sums seeds, one behind the other, so that many are known by few digits.
func sumOf(l ...api.Seed) string {
	var all []byte
	for _, seed := range l {
		all = append(all, seed[:]...)
	}
	sum := sha256.Sum256(all)
	return hex.EncodeToString(sum[:])
}

func flat(pairs []rot.Pair) []api.Seed {
	var l []api.Seed
	for _, pair := range pairs {
		l = append(l, pair.Zero, pair.One)
	}
	return l
}

// The sums were reckoned by another program.
func TestKnownSeeds(t *testing.T) {
	delta := api.Row{0x0123456789abcdef, 0xfedcba9876543210}
	for _, c := range []struct {
		from           uint64
		n              int
		sent, received string
	}{
		{0, 1, "0be7998c876aaf503f61453bb02faa22e5e36969f1d621f3f9f9bf6665ede4c9", "a661f99e8f0d96a9e6e5543c18e9aadce96dca0170fff9953ad6a7d8cc42b0e9"},
		{7, 4, "ce15b8396ebe34a1c4fb51e975a74c6e37fd52c70991c867493b0eb8f51f9e4d", "811633d7206366b62a3decb44f4ab63c66a8605299746547729ae825b3ffc4bd"},
		{250, 12, "7e1a92ef33e7d27e73f61cdb83e26cadc29aaf4c8ae399ab0ccd8a2f0024bc82", "ff4a2d30a0f75162cd09c5e6bf94d213cb316084230b7fa082e9fca4e402ca8c"},
		{65530, 12, "67365f8cef1ca854997282edaa28cfc7196a0fa5f88af4ed2cc0a945a500030b", "2945207860399939d3ac8b8c86b2dc397bef94957dd1e34625755b4db4476c7b"},
		{1<<26 - 4096, 4096, "290d33054fe12d8436598c8ef6aaba1504a81658e8f2503ea214f99e658eba51", "6f084d7fd076dd8e1c54d72898e6320458b08d64522d9eb82f61361490ba84ca"},
		{1<<32 - 3, 6, "485f607531d8ab645a933948094b3778c83d46f63800871cfaa79ae7c23f1f91", "f2d8c6e7fcfbf28abd793d947d1f0c30f296b31b9240a6cb024d4699c77ebf6b"},
		{top - 2, 3, "2a6ad55780600ee69c509f07271abca73820893a68f8de7580d7276e2bac777c", "b7874af46f819fc48559b0e9fb3f36b3ef7e43a1fdea0f24b7b17cd134635f15"},
	} {
		if got := sumOf(flat(rot.Send(delta, c.from, ruled(c.n)))...); got != c.sent {
			t.Errorf("Send of %d from %d on makes seeds of the sum %s", c.n, c.from, got)
		}
		if got := sumOf(rot.Receive(c.from, ruled(c.n))...); got != c.received {
			t.Errorf("Receive of %d from %d on makes seeds of the sum %s", c.n, c.from, got)
		}
	}
}

// isMade holds Send and Receive against the chapter's words, seed by seed.
func isMade(t *testing.T, delta api.Row, from uint64, rows []api.Row) {
	t.Helper()
	pairs, seeds := rot.Send(delta, from, rows), rot.Receive(from, rows)
	if len(pairs) != len(rows) || len(seeds) != len(rows) {
		t.Fatalf("of %d rows there are %d pairs and %d seeds", len(rows), len(pairs), len(seeds))
	}
	for j, row := range rows {
		n := from + uint64(j)
		zero, one := hashed(n, row), hashed(n, api.Row{row[0] ^ delta[0], row[1] ^ delta[1]})
		if pairs[j] != (rot.Pair{Zero: zero, One: one}) {
			t.Fatalf("of the row %d from %d on Send makes %x", j, from, pairs[j])
		}
		if seeds[j] != zero {
			t.Fatalf("of the row %d from %d on Receive makes %x", j, from, seeds[j])
		}
	}
}

func TestDrawnRows(t *testing.T) {
	r := rand.New(rand.NewSource(2))
	for _, n := range []int{1, 2, 3, 63, 64, 65, 512, 4096, 4097} { // no limit is named
		for _, from := range []uint64{0, 1, 255, 256, 1<<26 - uint64(n), 1 << 26, 1<<32 - 1, 1 << 63, -uint64(n), r.Uint64() >> 1} {
			isMade(t, anyRow(r), from, anyRows(r, n))
		}
	}
}

func TestDeltasOfSingleBits(t *testing.T) {
	rows := []api.Row{{}, {5, 9}, {top, top}}
	isMade(t, api.Row{}, 3, rows)
	isMade(t, api.Row{top, top}, 3, rows)
	for i := range 64 {
		isMade(t, api.Row{1 << i, 0}, 3, rows)
		isMade(t, api.Row{0, 1 << i}, 3, rows)
	}
}

func TestPairsOfNoDeltaAreAlike(t *testing.T) {
	r := rand.New(rand.NewSource(3))
	for _, rows := range [][]api.Row{{{}}, anyRows(r, 100)} {
		for j, pair := range rot.Send(api.Row{}, 9, rows) {
			if pair.Zero != pair.One {
				t.Errorf("both seeds of the pair %d aren't alike", j)
			}
		}
	}
}

// Rows that are alike have unlike seeds in other places: the number is summed, too.
func TestRowsThatAreAlike(t *testing.T) {
	rows := slices.Repeat([]api.Row{{5, 9}}, 300)
	seeds := rot.Receive(200, rows)
	slices.SortFunc(seeds, func(a, b api.Seed) int { return slices.Compare(a[:], b[:]) })
	if len(slices.Compact(seeds)) != len(rows) {
		t.Error("two rows have one seed")
	}
	isMade(t, api.Row{1, 2}, 200, rows)
}

func TestNoRows(t *testing.T) {
	for _, rows := range [][]api.Row{nil, {}} {
		for _, from := range []uint64{0, 5, top} {
			if pairs, seeds := rot.Send(api.Row{1, 2}, from, rows), rot.Receive(from, rows); len(pairs) != 0 || len(seeds) != 0 {
				t.Errorf("of no rows there are %d pairs and %d seeds", len(pairs), len(seeds))
			}
		}
	}
}

// Beyond 2^64 nothing is promised of the seeds, but that the calls end.
func TestNumbersThatRunOut(t *testing.T) {
	for _, from := range []uint64{top, top - 1, top - 50} {
		rows := ruled(100)
		if len(rot.Send(api.Row{1, 2}, from, rows)) != 100 || len(rot.Receive(from, rows)) != 100 {
			t.Errorf("from %d on there are not as many seeds as rows", from)
		}
	}
}
