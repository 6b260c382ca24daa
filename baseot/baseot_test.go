package baseot_test

import (
	"crypto/sha256"
	"encoding/hex"
	"math/rand"
	"slices"
	"testing"

	"trefoil/api"
	"trefoil/baseot"
	"trefoil/prg"
)

// rising is the seed of the bytes 0, 1, 2 ..
func rising() api.Seed {
	var seed api.Seed
	for i := range seed {
		seed[i] = byte(i)
	}
	return seed
}

func anySeed(r *rand.Rand) api.Seed {
	var seed api.Seed
	r.Read(seed[:])
	return seed
}

func anySeeds(r *rand.Rand, n int) []api.Seed {
	l := make([]api.Seed, n)
	for i := range l {
		l[i] = anySeed(r)
	}
	return l
}

// sumOf sums seeds, one behind the other, so that many are known by few digits.
func sumOf(l []api.Seed) string {
	var all []byte
	for _, seed := range l {
		all = append(all, seed[:]...)
	}
	sum := sha256.Sum256(all)
	return hex.EncodeToString(sum[:])
}

func sameView(v, w baseot.View) bool {
	return v.Send.Delta == w.Send.Delta && slices.Equal(v.Send.Keys, w.Send.Keys) && slices.Equal(v.Recv.Zero, w.Recv.Zero) && slices.Equal(v.Recv.One, w.Recv.One)
}

// P15.2

// The numbers were reckoned by another program, of ChaCha20's own rule.
func TestDealOfKnownMasters(t *testing.T) {
	for _, c := range []struct {
		master          api.Seed
		epoch           uint64
		party           int
		delta           api.Row
		keys, zero, one string
	}{
		{rising(), 0, 0, api.Row{0xf054af902b563f2c, 0x89d44a3434038fc9}, "442cb8fdb440e26c322ee3cec96f3fd2b3796f87325027ff387d863062041ca4", "a2ea379d02f07d6cdc9babd8c78dea9fbc0d201d67662d5bcce71ae4a7cfb9f9", "aded158a1d8ab5f451a3281b90ca73623fb097511e192f7aa526d76c156a8e52"},
		{rising(), 0, 1, api.Row{0xe711fb978c3b76fd, 0x351de0544801d62b}, "b89322f1b5bb1dedcdf8f743db959854c55f7eaa6043eb0e495dedda6b6630a1", "b84fa0727014c9af24f53bf4d7d3e4e881cd0b5d2636cc31f2afc17314090701", "52fbec02d36bf197be805d5f89c1c99d2c890c10fa13d2dc6d5ffcadc0a3978f"},
		{rising(), 3, 0, api.Row{0x8eb620e323496fc2, 0xbb1e7b8611de0dde}, "42a5835e389be92aae4eedaeef252f6a9a08c2746b5e66e5c275e31cf38d036d", "c9e239952a1e2db743f87afb30af6912ea7ced1a4890d964c410d73e3c50ec23", "259386673295bc56392b14e6f424c08f0850fa6e6fa612351c2083b753e53491"},
		{rising(), 3, 1, api.Row{0x3af15249fda41267, 0x93a25d1aee4cc4e4}, "4a9ea7983be32dd3157530832dd1b2ec295f5c6fcd0106ff63df4620b88ba399", "dd72c8fbfac5872e75ed8349ae747587e4fe596b71dfce9147126a98257cbd68", "702eab5bcb306d6235be1d9c2a146bad0d67efaa78bdf3455240a2e525987e35"},
		{rising(), top, 0, api.Row{0x6f6b1ee991d23224, 0x02de37cbb0109883}, "04a9598be9655d99d536256d6ddd9f3e378dc00954f8d1338126835c7ded24d1", "e19d1e58186d1e27113d1dbee2588042851f8739d2e9e1644c3d76cb45a3ec34", "92d55a21b3a31ae96aa9dd8f8ff3c8b2dca983b5b2bf631141f9e739d1b23e19"},
		{rising(), top, 1, api.Row{0x2dd2ab697d55ca7a, 0x7776c9b62a1954d9}, "3337c85c89d8ce974dbd9dba88dd2c3e85266414b40708c487bcdbbef69b2d1e", "fdb47f424ceedb675e5b66769c15471b5fa1a0bf4d4525a8196415e9727a73fb", "1668a2209acc9dc1d6d89206575ff1193f2d52d777bac08aa5fd0bdcb784b113"},
		{rising(), 0x0102030405060708, 0, api.Row{0xee0287139260c736, 0xae2dba697c0130ec}, "74858e89914cd9441ef69a68578775fc0b2280f0eae1d040a9e910a1aed59508", "f755a51a3eaeada190d2dc2ac1c09b177b7dc67d509454fc41fb308e803cc900", "0169f6d4062bd0bcc49b068e923aa63470cc76e04ec69d60bf8e2e8d48e5b684"},
		{rising(), 0x0102030405060708, 1, api.Row{0xe62e590d4de91667, 0x6c7f0eeb762b9445}, "cb2c6331ff8bad89f006e89dfb730d0c56465cbc9bc0f44624d308997091ef82", "39cde1c7f6e50099ede3858b6047322e275fd57714fccce1bcc46f8acd37c963", "a7e67faeb51ca6ffb6d70cd812f7db1adc13c283272bee3deba8079f1b7e3ba3"},
		{api.Seed{}, 0, 0, api.Row{0x399396f3bba56c90, 0x3e5067de30dcfa7a}, "f0e9b013c86c09345695dc092d8af754e7bf97defd7dda95d6329e5dec3af67b", "9bab5bc1beaa462ea74c3cb2c16d05e3cbc1412f759e8fa495d77ec667314921", "862663fbd5a38f3b00e96a1a0596cdd759690e0fd6194534844b0a3103323feb"},
		{api.Seed{}, 0, 1, api.Row{0xb9314cd66c7c242d, 0x47d530055711d32a}, "aa92c75bace7e44357ddbb13efda1baceb2ff73fd812f071597f205434a69356", "6d1561faf2515112004045a42b06cd0e35eb3c7cf09020421c924c99bfaf5304", "f64e6d04af8abb07c0c3d6d29236c47b5b07817b19a12ee60d3bfcca9959653f"},
	} {
		first, second := baseot.Deal(c.master, c.epoch)
		v := []baseot.View{first, second}[c.party]
		if v.Send.Delta != c.delta || sumOf(v.Send.Keys) != c.keys || sumOf(v.Recv.Zero) != c.zero || sumOf(v.Recv.One) != c.one {
			t.Errorf("of %x and the epoch %d party %d is dealt the Delta %x, and seeds of the sums %s, %s, %s", c.master, c.epoch, c.party, v.Send.Delta, sumOf(v.Send.Keys), sumOf(v.Recv.Zero), sumOf(v.Recv.One))
		}
	}
}

// isDirection holds a direction against the words of the chapter, seed by seed.
func isDirection(t *testing.T, root api.Seed, s baseot.Sender, r baseot.Receiver) {
	t.Helper()
	if len(s.Keys) != 128 || len(r.Zero) != 128 || len(r.One) != 128 {
		t.Fatalf("there are %d Keys, %d Zero, %d One", len(s.Keys), len(r.Zero), len(r.One))
	}
	words, code := prg.Words(root, 9, 0, 2)
	if code != api.OK || s.Delta != (api.Row{words[0], words[1]}) {
		t.Fatalf("Delta is %x, not %x", s.Delta, words)
	}
	for i := range 128 {
		zero, one := prg.Child(root, 2*uint64(i)), prg.Child(root, 2*uint64(i)+1)
		key := zero
		if words[i/64]>>(i%64)%2 == 1 {
			key = one
		}
		if r.Zero[i] != zero || r.One[i] != one || s.Keys[i] != key {
			t.Fatalf("the seeds %d are %x, %x, and %x of these", i, r.Zero[i], r.One[i], s.Keys[i])
		}
	}
}

func TestDealOfDrawnMasters(t *testing.T) {
	r := rand.New(rand.NewSource(3))
	for range 60 {
		master, epoch := anySeed(r), r.Uint64()>>r.Intn(64)
		root := prg.Child(master, epoch)
		first, second := baseot.Deal(master, epoch)
		isDirection(t, prg.Child(root, 0), first.Send, second.Recv)
		isDirection(t, prg.Child(root, 1), second.Send, first.Recv)
	}
}

// P15.3

// madeBy makes a direction of drawn seeds, and of a Delta.
func madeBy(r *rand.Rand, delta api.Row) (baseot.Sender, baseot.Receiver) {
	v := baseot.Receiver{Zero: anySeeds(r, 128), One: anySeeds(r, 128)}
	s := baseot.Sender{Delta: delta}
	for i := range 128 {
		if delta[i/64]>>(i%64)%2 == 1 {
			s.Keys = append(s.Keys, v.One[i])
		} else {
			s.Keys = append(s.Keys, v.Zero[i])
		}
	}
	return s, v
}

func TestMatch(t *testing.T) {
	r := rand.New(rand.NewSource(4))
	for _, delta := range someRows() {
		if s, v := madeBy(r, delta); !baseot.Match(s, v) {
			t.Errorf("by the Delta %x they don't match", delta)
		}
	}
}

func TestMatchOfSeedsThatAreAlike(t *testing.T) {
	zeros := make([]api.Seed, 128)
	for _, delta := range []api.Row{{}, {5, 9}, {top, top}} {
		if !baseot.Match(baseot.Sender{Delta: delta, Keys: zeros}, baseot.Receiver{Zero: zeros, One: zeros}) {
			t.Errorf("128 zeros don't match by the Delta %x", delta)
		}
	}
}

func TestNoMatchBySingleBits(t *testing.T) {
	s, v := madeBy(rand.New(rand.NewSource(5)), api.Row{0x0123456789abcdef, 0xfedcba9876543210})
	for i := range 128 {
		other := s
		other.Delta[i/64] ^= 1 << (i % 64)
		if baseot.Match(other, v) {
			t.Errorf("they match with another bit %d of Delta", i)
		}
		for _, k := range []int{0, 7, 100, 255} {
			turn := func(l []api.Seed) { l[i][k/8] ^= 1 << (k % 8) }
			turn(s.Keys)
			if baseot.Match(s, v) {
				t.Errorf("they match with another bit %d of the Key %d", k, i)
			}
			turn(s.Keys)
		}
	}
	if !baseot.Match(s, v) {
		t.Error("what was turned back doesn't match")
	}
}

// A seed that wasn't chosen may be any: the sender has nothing to hold against it.
func TestMatchAsksForTheChosenAlone(t *testing.T) {
	delta := api.Row{0x0123456789abcdef, 0xfedcba9876543210}
	s, v := madeBy(rand.New(rand.NewSource(6)), delta)
	for i := range 128 {
		bit := baseot.Bit(delta, i)
		v.Zero[i][31] ^= 128
		if baseot.Match(s, v) != bit {
			t.Errorf("Match with another Zero %d, where the bit is %t, is %t", i, bit, !bit)
		}
		v.Zero[i][31] ^= 128
		v.One[i][0] ^= 1
		if baseot.Match(s, v) == bit {
			t.Errorf("Match with another One %d, where the bit is %t, is %t", i, bit, bit)
		}
		v.One[i][0] ^= 1
	}
}

func TestNoMatchOfTooFewOrMany(t *testing.T) {
	delta := api.Row{0x0123456789abcdef, 0xfedcba9876543210}
	s, v := madeBy(rand.New(rand.NewSource(7)), delta)
	sized := func(l []api.Seed, n int) []api.Seed { return slices.Concat(l, l)[:n:n] }
	sizes := []int{0, 1, 64, 127, 128, 129, 256}
	for _, keys := range sizes {
		for _, zero := range sizes {
			for _, one := range sizes {
				got := baseot.Match(baseot.Sender{Delta: delta, Keys: sized(s.Keys, keys)}, baseot.Receiver{Zero: sized(v.Zero, zero), One: sized(v.One, one)})
				if got != (keys == 128 && zero == 128 && one == 128) {
					t.Errorf("Match of %d Keys, %d Zero, %d One is %t", keys, zero, one, got)
				}
			}
		}
	}
	if baseot.Match(baseot.Sender{}, baseot.Receiver{}) || baseot.Match(s, baseot.Receiver{}) || baseot.Match(baseot.Sender{}, v) {
		t.Error("what no call made matches")
	}
}

func TestClone(t *testing.T) {
	r := rand.New(rand.NewSource(8))
	views := []baseot.View{{}, {Send: baseot.Sender{Keys: []api.Seed{}}, Recv: baseot.Receiver{Zero: []api.Seed{}, One: []api.Seed{}}}}
	for _, sizes := range [][3]int{{128, 128, 128}, {0, 1, 2}, {3, 0, 0}, {0, 0, 129}, {127, 128, 129}, {1000, 5, 0}} {
		views = append(views, baseot.View{
			Send: baseot.Sender{Delta: anyRow(r), Keys: anySeeds(r, sizes[0])},
			Recv: baseot.Receiver{Zero: anySeeds(r, sizes[1]), One: anySeeds(r, sizes[2])},
		})
	}
	for i, v := range views {
		if w := v.Clone(); !sameView(v, w) {
			t.Errorf("the clone of the view %d is another", i)
		}
	}
}
