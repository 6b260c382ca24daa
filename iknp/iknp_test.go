package iknp_test

import (
	"crypto/sha256"
	"encoding/hex"
	"math"
	"math/rand"
	"slices"
	"testing"

	"trefoil/api"
	"trefoil/baseot"
	"trefoil/bits"
	"trefoil/iknp"
	"trefoil/prg"
)

const (
	most = 4096    // transfers at once
	end  = 1 << 26 // the first number that no transfer has
	top  = math.MaxUint64
)

// spans are first numbers, and how many transfers: the edges of bytes, words, blocks and limits, and others.
var spans = []struct {
	from uint64
	n    int
}{
	{0, 1}, {1, 1}, {7, 2}, {8, 8}, {9, 7}, {63, 2}, {64, 64}, {65, 63}, {100, 200}, {511, 1}, {511, 2}, {512, 512}, {513, 511},
	{0, 4095}, {0, most}, {3, most}, {4095, 129}, {1 << 20, 65}, {end - 2, 1}, {end - 1, 1}, {end - 65, 64}, {end - 65, 65}, {end - most, most}, {end - most - 1, most},
}

// tooMany are numbers of bits that no transfers have.
var tooMany = []int{0, 4097, 4098, 4160, 8192, 65535, 65536, 65537, 1 << 22}

// tooFar tells first numbers of n transfers of which one's would be the end or behind it.
func tooFar(n int) []uint64 {
	return []uint64{end - uint64(n) + 1, end, end + 1, 1 << 27, 1 << 31, 1<<32 - uint64(n), 1 << 32, 1 << 62, 1 << 63, -uint64(n), top - uint64(n), top - 1, top}
}

func anySeeds(r *rand.Rand, n int) []api.Seed {
	l := make([]api.Seed, n)
	for i := range l {
		r.Read(l[i][:])
	}
	return l
}

func anyRow(r *rand.Rand) api.Row { return api.Row{r.Uint64(), r.Uint64()} }

func anyRows(r *rand.Rand, n int) []api.Row {
	l := make([]api.Row, n)
	for j := range l {
		l[j] = anyRow(r)
	}
	return l
}

func anyBits(r *rand.Rand, n int) bits.Vec {
	words := make([]uint64, (n+63)/64)
	for i := range words {
		words[i] = r.Uint64()
	}
	v, _ := bits.Words(n, words)
	return v
}

func anyCols(r *rand.Rand, count, n int) []bits.Vec {
	l := make([]bits.Vec, count)
	for i := range l {
		l[i] = anyBits(r, n)
	}
	return l
}

func anyReceiver(r *rand.Rand) baseot.Receiver {
	return baseot.Receiver{Zero: anySeeds(r, 128), One: anySeeds(r, 128)}
}

func anySender(r *rand.Rand) baseot.Sender {
	return baseot.Sender{Delta: anyRow(r), Keys: anySeeds(r, 128)}
}

func blank(n int) bits.Vec {
	v, _ := bits.New(n)
	return v
}

// sized tells n of the list, or the list and its first ones once more.
func sized[T any](l []T, n int) []T { return slices.Concat(l, l)[:n:n] }

// ruled makes n bits by a rule.
func ruled(n int, rule func(j int) bool) bits.Vec {
	l := make([]bool, n)
	for j := range l {
		l[j] = rule(j)
	}
	v, _ := bits.Of(l)
	return v
}

// rowBit asks for a bit as chapter 15 numbers them.
func rowBit(row api.Row, i int) bool { return row[i/64]>>(i%64)%2 == 1 }

// drawn tells a seed's column by its stream's bytes.
func drawn(t *testing.T, seed api.Seed, from uint64, n int) []bool {
	t.Helper()
	first := int(from / 8)
	s, code := prg.Bytes(seed, 0, first, int(from+uint64(n)+7)/8-first)
	if code != api.OK {
		t.Fatalf("the bytes of %d from %d on: %d", n, from, code)
	}
	l := make([]bool, n)
	for j := range l {
		at := int(from%8) + j
		l[j] = s[at/8]>>(at%8)%2 == 1
	}
	return l
}

func received(t *testing.T, r baseot.Receiver, from uint64, choices bits.Vec) ([]bits.Vec, []api.Row) {
	t.Helper()
	cols, rows, code := iknp.Receive(r, from, choices)
	if code != api.OK {
		t.Fatalf("Receive of %d from %d on: %d", choices.Len(), from, code)
	}
	return cols, rows
}

func sent(t *testing.T, s baseot.Sender, from uint64, cols []bits.Vec) []api.Row {
	t.Helper()
	rows, code := iknp.Send(s, from, cols)
	if code != api.OK {
		t.Fatalf("Send of %d from %d on: %d", cols[0].Len(), from, code)
	}
	return rows
}

func sameCols(a, b []bits.Vec) bool { return slices.EqualFunc(a, b, bits.Equal) }

// notReceived and notSent ask for an error, and for nothing beside it.

func notReceived(t *testing.T, what string, r baseot.Receiver, from uint64, choices bits.Vec, want api.Errno) {
	t.Helper()
	cols, rows, code := iknp.Receive(r, from, choices)
	if code != want || len(cols) != 0 || len(rows) != 0 {
		t.Errorf("Receive of %s, %d from %d on: %d columns, %d rows, %d, not %d", what, choices.Len(), from, len(cols), len(rows), code, want)
	}
}

func notSent(t *testing.T, what string, s baseot.Sender, from uint64, cols []bits.Vec, want api.Errno) {
	t.Helper()
	if rows, code := iknp.Send(s, from, cols); code != want || len(rows) != 0 {
		t.Errorf("Send of %s, %d columns from %d on: %d rows, %d, not %d", what, len(cols), from, len(rows), code, want)
	}
}

// P17.1 and P17.2, of known seeds

// sumOfCols and sumOfRows sum many bits, so that they are known by few digits.

func sumOfCols(cols []bits.Vec) string {
	var all []byte
	for _, col := range cols {
		all = append(all, col.Bytes()...)
	}
	sum := sha256.Sum256(all)
	return hex.EncodeToString(sum[:])
}

func sumOfRows(rows []api.Row) string {
	var all []byte
	for _, row := range rows {
		all = append(all, baseot.Bytes(row)...)
	}
	sum := sha256.Sum256(all)
	return hex.EncodeToString(sum[:])
}

// ruledSeeds makes 128 seeds: the byte k of the seed i is each times i, step times k, and more.
func ruledSeeds(each, step, more int) []api.Seed {
	l := make([]api.Seed, 128)
	for i := range l {
		for k := range l[i] {
			l[i][k] = byte(each*i + step*k + more)
		}
	}
	return l
}

// The sums were reckoned by another program, of ChaCha20's own rule.
func TestKnownSeeds(t *testing.T) {
	zero, one := ruledSeeds(7, 1, 0), ruledSeeds(11, 3, 5)
	s := baseot.Sender{Delta: api.Row{0x0123456789abcdef, 0xfedcba9876543210}, Keys: zero}
	for _, c := range []struct {
		from             uint64
		n                int
		cols, rows, sent string
	}{
		{0, 1, "ebe2dd9da2207b47199e73bdf8081027b96fffe7805dbf005b95d7b9c45b75e7", "774c2e5dedaa25cf96e685ef7cb15e98ae5f98e2c3a5d5367c73805321dc1c9f", "54fb584e50cc96bf5c36680535dea9f14f84b487cf23f6dfa6f76a12bf4421c9"},
		{5, 100, "dc9cd43c6535ad1dcd7c018ea760f6b03fd76005ef167091a1f6191b3ce81e29", "c0ddfc126a882bf8a76102b64385003aa2d658b08ce60b5daf6fbcee282ff1f1", "8f8f34d50959244b122e1c65fbc7a2ac957031a0cc0f98560eb7c6ba5e25105f"},
		{511, 513, "603e2d708a07f811418765d6053bfba77445269da07f98319b0fcda49a8b58ce", "1052f18d3c867141e7a0a16325f39b3ae7773599d0473c4b5e4685bf19d0755f", "e679165b50b14bda27255bbc0e066703dcd45d0edeba476b87c9b57d30a77301"},
		{1000, 300, "3ebbfa62e0857b640e12551752007a12f0693296d172363388ece3951260d247", "e6079993dd8d11bdff672fa64f7c43b7723b9b77d9e056a4dac6f097cac7616e", "33cd9b8f3a6daec8a1af3e56e899f9dea7b112cd3ea9f325e503b00c3143c077"},
		{end - most, most, "b75a6b6b394580aa0118d498e0085ddc2292d5a552c577da960c9b10b695f3fd", "cbde1866f6caebe6b7f795f9f27174aceb0981509b5450a644a8f4b8b81c59cb", "a071b6a607e375bef7d457c7efd9c0228dd10e6d7150c76bfdb7273b53da120c"},
		{end - 1, 1, "de7be8b0cfb01fbd5f3958093bda03b2eedaaaa459595317902f8215101320df", "efa130436ab68d8b4c0cc2b0ce5a361c20119241a1fe782a9912caf2fbe3a87c", "2745df59e06e28a7f925e7228afb7c8a991f3563a019c388bba684034fc5928c"},
	} {
		choices := ruled(c.n, func(j int) bool { return j*j%7 < 3 })
		cols, rows := received(t, baseot.Receiver{Zero: zero, One: one}, c.from, choices)
		if sumOfCols(cols) != c.cols || sumOfRows(rows) != c.rows {
			t.Errorf("Receive of %d from %d on makes columns of the sum %s, and rows of %s", c.n, c.from, sumOfCols(cols), sumOfRows(rows))
		}
		came := make([]bits.Vec, 128)
		for i := range came {
			came[i] = ruled(c.n, func(j int) bool { return (i*j+i+j)%5 < 2 })
		}
		if got := sumOfRows(sent(t, s, c.from, came)); got != c.sent {
			t.Errorf("Send of %d from %d on makes rows of the sum %s", c.n, c.from, got)
		}
	}
}
