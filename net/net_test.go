package net_test

import (
	"math"
	"slices"
	"strconv"
	"strings"
	"testing"

	"trefoil/api"
	"trefoil/net"
)

const mostBytes = 1 << 17

var (
	fullBytes = strings.Repeat("0123456789abcdef", 1<<13)
	longBytes = fullBytes + "x"
)

// noParties are numbers that are no party, those among them whose low bits are one.
func noParties() []int {
	return []int{math.MinInt, math.MinInt + 1, math.MinInt32, -256, -2, -1, 2, 3, 4, 63, 64, 255, 256, 257, math.MaxInt32, 1 << 32, 1<<32 + 1, math.MaxInt - 1, math.MaxInt}
}

// noPlaces are numbers that are no place of a way on which so many are.
func noPlaces(size int) []int {
	return []int{math.MinInt, math.MinInt32, -256, -64, -size - 1, -1, size, size + 1, size + api.MaxNet, 1 << 32, math.MaxInt32, math.MaxInt}
}

// netWith makes a network with these on their way to a party, and two others on their way to the other one.
func netWith(t *testing.T, to int, texts ...string) *net.Net {
	t.Helper()
	n := net.New()
	for _, s := range texts {
		ok(t, n.Send(to, s))
	}
	ok(t, n.Send(1-to, "other"))
	ok(t, n.Send(1-to, "side"))
	return n
}

// ok asks that there is no error.
func ok(t *testing.T, code api.Errno) {
	t.Helper()
	if code != api.OK {
		t.Fatalf("the error %d", code)
	}
}

// fails asks for an error.
func fails(t *testing.T, got, want api.Errno) {
	t.Helper()
	if got != want {
		t.Fatalf("the error %d, not %d", got, want)
	}
}

// holds asks that these are on their way to a party.
func holds(t *testing.T, n *net.Net, to int, texts ...string) {
	t.Helper()
	if got := n.Len(to); got != len(texts) {
		t.Fatalf("%d are on their way to %d, not %d", got, to, len(texts))
	}
	if got := n.All(to); !slices.Equal(got, texts) {
		t.Fatalf("on their way to %d are %.200q, not %.200q", to, got, texts)
	}
}

// leavesOther asks that what is on its way to the other party is what netWith sent.
func leavesOther(t *testing.T, n *net.Net, to int) {
	t.Helper()
	holds(t, n, 1-to, "other", "side")
}

// numbers are so many texts, each unlike the others.
func numbers(count int) []string {
	l := make([]string, count)
	for i := range l {
		l[i] = "number " + strconv.Itoa(i)
	}
	return l
}

// bothParties runs a test for each party.
func bothParties(t *testing.T, test func(t *testing.T, to int)) {
	for to := range 2 {
		t.Run("to "+strconv.Itoa(to), func(t *testing.T) { test(t, to) })
	}
}

// call is one of the calls, with what of it is told.
type call struct {
	name string
	run  func(n *net.Net, to, i int) api.Errno
}

// placeCalls are the calls that ask for a place.
func placeCalls() []call {
	return []call{
		{"Take", func(n *net.Net, to, i int) api.Errno {
			s, code := n.Take(to, i)
			if code != api.OK && s != "" {
				panic("Take tells bytes beside an error")
			}
			return code
		}},
		{"Drop", func(n *net.Net, to, i int) api.Errno { return n.Drop(to, i) }},
		{"Double", func(n *net.Net, to, i int) api.Errno { return n.Double(to, i) }},
		{"Swap, the first", func(n *net.Net, to, i int) api.Errno { return n.Swap(to, i, 0) }},
		{"Swap, the second", func(n *net.Net, to, i int) api.Errno { return n.Swap(to, 0, i) }},
		{"Swap, both", func(n *net.Net, to, i int) api.Errno { return n.Swap(to, i, i) }},
		{"Forge", func(n *net.Net, to, i int) api.Errno { return n.Forge(to, i, "forged") }},
		{"Forge of too many", func(n *net.Net, to, i int) api.Errno { return n.Forge(to, i, longBytes) }},
		{"Turn", func(n *net.Net, to, i int) api.Errno { return n.Turn(to, i, 0, 1) }},
		{"Turn without a byte", func(n *net.Net, to, i int) api.Errno { return n.Turn(to, i, -1, 1) }},
	}
}

// allCalls are all calls that have an error.
func allCalls() []call {
	return append(placeCalls(),
		call{"Send", func(n *net.Net, to, _ int) api.Errno { return n.Send(to, "sent") }},
		call{"Send of nothing", func(n *net.Net, to, _ int) api.Errno { return n.Send(to, "") }},
		call{"Send of too many", func(n *net.Net, to, _ int) api.Errno { return n.Send(to, longBytes) }},
		call{"Clear", func(n *net.Net, to, _ int) api.Errno { return n.Clear(to) }})
}

// P12.1

func TestNew(t *testing.T) {
	n := net.New()
	holds(t, n, 0)
	holds(t, n, 1)
}

func TestNetworksAreApart(t *testing.T) {
	n, m := net.New(), net.New()
	ok(t, n.Send(0, "a"))
	ok(t, m.Send(1, "b"))
	holds(t, n, 0, "a")
	holds(t, n, 1)
	holds(t, m, 0)
	holds(t, m, 1, "b")
}

func TestLenAndAllOfEverySize(t *testing.T) {
	bothParties(t, func(t *testing.T, to int) {
		sent := numbers(api.MaxNet)
		n := netWith(t, to)
		for i, s := range sent {
			holds(t, n, to, sent[:i]...)
			ok(t, n.Send(to, s))
		}
		holds(t, n, to, sent...)
		leavesOther(t, n, to)
	})
}

func TestLenAndAllChangeNothing(t *testing.T) {
	n := netWith(t, 0, "a", "", "b")
	for range 3 {
		holds(t, n, 0, "a", "", "b")
		holds(t, n, 1, "other", "side")
	}
}

func TestLenAndAllOfNoParty(t *testing.T) {
	n := netWith(t, 0, "a")
	for _, to := range noParties() {
		if got := n.Len(to); got != 0 {
			t.Errorf("%d are on their way to %d", got, to)
		}
		if got := n.All(to); len(got) != 0 {
			t.Errorf("%q are on their way to %d", got, to)
		}
	}
}

func TestClear(t *testing.T) {
	bothParties(t, func(t *testing.T, to int) {
		for _, size := range []int{0, 1, 2, api.MaxNet} {
			n := netWith(t, to, numbers(size)...)
			ok(t, n.Clear(to))
			holds(t, n, to)
			leavesOther(t, n, to)
			ok(t, n.Clear(to))
			holds(t, n, to)
			ok(t, n.Send(to, "new"))
			holds(t, n, to, "new")
		}
	})
}

func TestClearMakesRoom(t *testing.T) {
	n := netWith(t, 1, numbers(api.MaxNet)...)
	ok(t, n.Clear(1))
	for _, s := range numbers(api.MaxNet) {
		ok(t, n.Send(1, s))
	}
	holds(t, n, 1, numbers(api.MaxNet)...)
}

// No party, and no network: all promises

func TestNoParty(t *testing.T) {
	for _, c := range allCalls() {
		for _, to := range noParties() {
			for _, i := range append(noPlaces(2), 0, 1) {
				n := netWith(t, 0, "a", "b")
				if got := c.run(n, to, i); got != api.ErrArg {
					t.Fatalf("%s to %d at %d: the error %d", c.name, to, i, got)
				}
				holds(t, n, 0, "a", "b")
				leavesOther(t, n, 0)
			}
		}
	}
}

func TestNoPartyOfAFullNetwork(t *testing.T) {
	n := netWith(t, 0, numbers(api.MaxNet)...)
	for _, s := range numbers(api.MaxNet - 2) {
		ok(t, n.Send(1, s))
	}
	for _, to := range noParties() {
		fails(t, n.Send(to, longBytes), api.ErrArg)
		fails(t, n.Send(to, ""), api.ErrArg)
		fails(t, n.Double(to, 0), api.ErrArg)
	}
	holds(t, n, 0, numbers(api.MaxNet)...)
}

func TestNoNetwork(t *testing.T) {
	for _, n := range []*net.Net{nil, {}, new(net.Net)} {
		for _, c := range allCalls() {
			for _, to := range append(noParties(), 0, 1) {
				for _, i := range []int{math.MinInt, -1, 0, 1, math.MaxInt} {
					if got := c.run(n, to, i); got != api.ErrNil {
						t.Fatalf("%s to %d at %d: the error %d", c.name, to, i, got)
					}
				}
				if n.Len(to) != 0 || len(n.All(to)) != 0 {
					t.Fatalf("something is on its way to %d", to)
				}
			}
		}
	}
}

// P12.2

func TestSendOfAllBytes(t *testing.T) {
	bothParties(t, func(t *testing.T, to int) {
		sent := []string{"", "\x00", "a", "\xff\xfe\x80", "a\nb", "", strings.Repeat("\x00", 1000), fullBytes, fullBytes[1:]}
		n := netWith(t, to, sent...)
		holds(t, n, to, sent...)
		leavesOther(t, n, to)
	})
}

func TestSendOfTooMany(t *testing.T) {
	if len(fullBytes) != mostBytes {
		t.Fatal("not the most bytes")
	}
	bothParties(t, func(t *testing.T, to int) {
		n := netWith(t, to, "a")
		fails(t, n.Send(to, longBytes), api.ErrLimit)
		fails(t, n.Send(to, longBytes+longBytes), api.ErrLimit)
		holds(t, n, to, "a")
		ok(t, n.Send(to, fullBytes))
		holds(t, n, to, "a", fullBytes)
		leavesOther(t, n, to)
	})
}

func TestSendToAFullWay(t *testing.T) {
	bothParties(t, func(t *testing.T, to int) {
		sent := numbers(api.MaxNet)
		n := netWith(t, to, sent...)
		for _, s := range []string{"", "lost", fullBytes} {
			fails(t, n.Send(to, s), api.ErrFull)
			holds(t, n, to, sent...)
		}
		fails(t, n.Send(to, longBytes), api.ErrLimit) // ahead of ErrFull
		holds(t, n, to, sent...)
		leavesOther(t, n, to)
		ok(t, n.Send(1-to, "there is room"))
		ok(t, n.Drop(to, 5))
		ok(t, n.Send(to, "not lost"))
		holds(t, n, to, append(slices.Delete(slices.Clone(sent), 5, 6), "not lost")...)
		fails(t, n.Send(to, "lost"), api.ErrFull)
	})
}

func TestAFullWayOfFullBytes(t *testing.T) {
	n := net.New()
	for range api.MaxNet {
		ok(t, n.Send(0, fullBytes))
	}
	fails(t, n.Send(0, ""), api.ErrFull)
	if n.Len(0) != api.MaxNet {
		t.Fatal(n.Len(0))
	}
	for _, s := range n.All(0) {
		if s != fullBytes {
			t.Fatal("other bytes")
		}
	}
}

func TestDouble(t *testing.T) {
	bothParties(t, func(t *testing.T, to int) {
		for i, s := range []string{"a", "", fullBytes, "b"} {
			n := netWith(t, to, "a", "", fullBytes, "b")
			ok(t, n.Double(to, i))
			holds(t, n, to, "a", "", fullBytes, "b", s)
			ok(t, n.Double(to, 4))
			holds(t, n, to, "a", "", fullBytes, "b", s, s)
			leavesOther(t, n, to)
		}
	})
}

func TestDoubleFillsAWay(t *testing.T) {
	bothParties(t, func(t *testing.T, to int) {
		n := netWith(t, to, "a", "b")
		want := []string{"a", "b"}
		for len(want) < api.MaxNet {
			ok(t, n.Double(to, 1))
			want = append(want, "b")
			holds(t, n, to, want...)
		}
		for i := range api.MaxNet {
			fails(t, n.Double(to, i), api.ErrFull)
		}
		for _, i := range noPlaces(api.MaxNet) {
			fails(t, n.Double(to, i), api.ErrNone) // ahead of ErrFull
		}
		holds(t, n, to, want...)
		leavesOther(t, n, to)
	})
}

func TestWhatIsDoubledIsAlone(t *testing.T) {
	n := netWith(t, 1, "abc")
	ok(t, n.Double(1, 0))
	ok(t, n.Turn(1, 0, 1, 0xff))
	holds(t, n, 1, "a\x9dc", "abc")
	ok(t, n.Forge(1, 1, "forged"))
	holds(t, n, 1, "a\x9dc", "forged")
}

// P12.3

func TestNoPlace(t *testing.T) {
	bothParties(t, func(t *testing.T, to int) {
		for _, c := range placeCalls() {
			for _, size := range []int{0, 1, 2, 3, api.MaxNet - 1, api.MaxNet} {
				n := netWith(t, to, numbers(size)...)
				for _, i := range noPlaces(size) {
					if got := c.run(n, to, i); got != api.ErrNone {
						t.Fatalf("%s at %d of %d: the error %d", c.name, i, size, got)
					}
				}
				holds(t, n, to, numbers(size)...)
				leavesOther(t, n, to)
			}
		}
	})
}

func TestTakeAtEveryPlace(t *testing.T) {
	bothParties(t, func(t *testing.T, to int) {
		for _, size := range []int{1, 2, 3, api.MaxNet} {
			for i := range size {
				n := netWith(t, to, numbers(size)...)
				s, code := n.Take(to, i)
				if want := numbers(size)[i]; s != want || code != api.OK {
					t.Fatalf("at %d: %q, the error %d", i, s, code)
				}
				holds(t, n, to, slices.Delete(numbers(size), i, i+1)...)
				leavesOther(t, n, to)
			}
		}
	})
}

func TestTakeUntilNothingIsLeft(t *testing.T) {
	sent := []string{"a", "", fullBytes, "\x00"}
	n := netWith(t, 0, sent...)
	for i, want := range sent {
		if s, code := n.Take(0, 0); s != want || code != api.OK {
			t.Fatalf("%.20q, the error %d", s, code)
		}
		holds(t, n, 0, sent[i+1:]...)
	}
	if s, code := n.Take(0, 0); s != "" || code != api.ErrNone {
		t.Fatalf("%q, the error %d", s, code)
	}
	leavesOther(t, n, 0)
}

func TestDropAtEveryPlace(t *testing.T) {
	bothParties(t, func(t *testing.T, to int) {
		for _, size := range []int{1, 2, 3, api.MaxNet} {
			for i := range size {
				n := netWith(t, to, numbers(size)...)
				ok(t, n.Drop(to, i))
				holds(t, n, to, slices.Delete(numbers(size), i, i+1)...)
				leavesOther(t, n, to)
			}
		}
	})
}

func TestSwapOfEveryTwoPlaces(t *testing.T) {
	bothParties(t, func(t *testing.T, to int) {
		const size = 9
		for i := range size {
			for k := range size {
				n := netWith(t, to, numbers(size)...)
				ok(t, n.Swap(to, i, k))
				want := numbers(size)
				want[i], want[k] = numbers(size)[k], numbers(size)[i]
				holds(t, n, to, want...)
				ok(t, n.Swap(to, k, i))
				holds(t, n, to, numbers(size)...)
				leavesOther(t, n, to)
			}
		}
	})
}

func TestSwapOfTheEndsOfAFullWay(t *testing.T) {
	n := netWith(t, 0, numbers(api.MaxNet)...)
	ok(t, n.Swap(0, 0, api.MaxNet-1))
	want := numbers(api.MaxNet)
	want[0], want[api.MaxNet-1] = want[api.MaxNet-1], want[0]
	holds(t, n, 0, want...)
}

func TestForgeAtEveryPlace(t *testing.T) {
	bothParties(t, func(t *testing.T, to int) {
		for i := range 4 {
			for _, s := range []string{"", "x", "a longer one than those that were sent", "\xff\x00", fullBytes} {
				n := netWith(t, to, "a", "", "bc", "d")
				ok(t, n.Forge(to, i, s))
				want := []string{"a", "", "bc", "d"}
				want[i] = s
				holds(t, n, to, want...)
				leavesOther(t, n, to)
			}
		}
	})
}

func TestForgeOfTooMany(t *testing.T) {
	bothParties(t, func(t *testing.T, to int) {
		n := netWith(t, to, "a", "b")
		fails(t, n.Forge(to, 0, longBytes), api.ErrLimit)
		fails(t, n.Forge(to, 1, longBytes+longBytes), api.ErrLimit)
		fails(t, n.Forge(to, 2, longBytes), api.ErrNone) // ahead of ErrLimit
		fails(t, n.Forge(to, -1, longBytes), api.ErrNone)
		holds(t, n, to, "a", "b")
		leavesOther(t, n, to)
	})
}

func TestForgeOnAFullWay(t *testing.T) {
	n := netWith(t, 1, numbers(api.MaxNet)...)
	ok(t, n.Forge(1, api.MaxNet-1, "forged"))
	want := numbers(api.MaxNet)
	want[api.MaxNet-1] = "forged"
	holds(t, n, 1, want...)
}

// turnedByHand turns a text's byte bit by bit.
func turnedByHand(s string, at int, bits byte) string {
	x := int(s[at])
	for bit := 1; bit < 256; bit *= 2 {
		if int(bits)/bit%2 == 0 {
			continue
		}
		if x/bit%2 == 0 {
			x += bit
		} else {
			x -= bit
		}
	}
	return s[:at] + string([]byte{byte(x)}) + s[at+1:]
}

func TestTurnOfEveryByteByAllBits(t *testing.T) {
	bothParties(t, func(t *testing.T, to int) {
		sent := []string{"first", "\x00\xff\x80\x01z", "last"}
		for i := range sent {
			for at := range sent[i] {
				for bits := range 256 {
					n := netWith(t, to, sent...)
					ok(t, n.Turn(to, i, at, byte(bits)))
					want := slices.Clone(sent)
					want[i] = turnedByHand(sent[i], at, byte(bits))
					holds(t, n, to, want...)
					ok(t, n.Turn(to, i, at, byte(bits)))
					holds(t, n, to, sent...)
					leavesOther(t, n, to)
				}
			}
		}
	})
}

func TestTurnByHand(t *testing.T) {
	n := netWith(t, 0, "two", "abc")
	ok(t, n.Turn(0, 0, 0, 32))
	holds(t, n, 0, "Two", "abc")
	ok(t, n.Turn(0, 1, 2, 0xff))
	holds(t, n, 0, "Two", "ab\x9c")
	ok(t, n.Turn(0, 1, 2, 0))
	holds(t, n, 0, "Two", "ab\x9c")
	ok(t, n.Turn(0, 1, 2, 'c'^0xff))
	holds(t, n, 0, "Two", "ab\x00")
}

func TestTurnOfTheEndsOfFullBytes(t *testing.T) {
	n := netWith(t, 0, fullBytes)
	ok(t, n.Turn(0, 0, mostBytes-1, 1))
	ok(t, n.Turn(0, 0, 0, 1))
	fails(t, n.Turn(0, 0, mostBytes, 1), api.ErrNone)
	holds(t, n, 0, "1"+fullBytes[1:mostBytes-1]+"g")
}

func TestTurnOfNoByte(t *testing.T) {
	bothParties(t, func(t *testing.T, to int) {
		sent := []string{"", "a", "abc"}
		n := netWith(t, to, sent...)
		for i, s := range sent {
			for _, at := range noPlaces(len(s)) {
				for _, bits := range []byte{0, 1, 255} {
					fails(t, n.Turn(to, i, at, bits), api.ErrNone)
				}
			}
		}
		holds(t, n, to, sent...)
		leavesOther(t, n, to)
	})
}

func TestTheChaptersExample(t *testing.T) {
	n := net.New()
	for _, s := range []string{"a", "b", "c"} {
		ok(t, n.Send(1, s))
	}
	ok(t, n.Drop(1, 0))
	ok(t, n.Double(1, 0))
	holds(t, n, 1, "b", "c", "b")
	holds(t, n, 0)
}
