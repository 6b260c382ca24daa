package net_test

import (
	"math/rand"
	"slices"
	"strings"
	"testing"
	"unsafe"

	"trefoil/api"
	"trefoil/net"
)

// plainNet is a second network, slow and plain, whose ways are made anew at each step.
type plainNet [2][]string

// step is a call with all it is given.
type step struct {
	name     string
	to, i, k int
	text     string
	bits     byte
	taken    string // what Take told
	size     int    // what Len told
}

// run makes a step on a network.
func (s *step) run(n *net.Net) api.Errno {
	var code api.Errno
	switch s.name {
	case "send":
		code = n.Send(s.to, s.text)
	case "double":
		code = n.Double(s.to, s.i)
	case "take":
		s.taken, code = n.Take(s.to, s.i)
	case "drop":
		code = n.Drop(s.to, s.i)
	case "swap":
		code = n.Swap(s.to, s.i, s.k)
	case "forge":
		code = n.Forge(s.to, s.i, s.text)
	case "turn":
		code = n.Turn(s.to, s.i, s.k, s.bits)
	case "clear":
		code = n.Clear(s.to)
	case "len":
		s.size = n.Len(s.to)
	}
	return code
}

// wrong tells what is wrong with a step, in the chapter's order.
func (p *plainNet) wrong(s step) api.Errno {
	isPlace := func(i int) bool { return 0 <= i && i < len(p[s.to]) }
	isAtPlace := !slices.Contains([]string{"send", "clear", "len"}, s.name)
	if s.to != 0 && s.to != 1 {
		if s.name == "len" {
			return api.OK
		}
		return api.ErrArg
	}
	if isAtPlace && !isPlace(s.i) {
		return api.ErrNone
	}
	if s.name == "swap" && !isPlace(s.k) {
		return api.ErrNone
	}
	if s.name == "turn" && (s.k < 0 || s.k >= len(p[s.to][s.i])) {
		return api.ErrNone
	}
	if (s.name == "send" || s.name == "forge") && len(s.text) > mostBytes {
		return api.ErrLimit
	}
	if (s.name == "send" || s.name == "double") && len(p[s.to]) == 64 {
		return api.ErrFull
	}
	return api.OK
}

// do makes a step with which nothing is wrong, and tells what is taken.
func (p *plainNet) do(s step) string {
	var next []string
	taken := ""
	for i, x := range p[s.to] {
		switch {
		case s.name == "clear":
			continue
		case s.name == "take" && i == s.i:
			taken = x
			continue
		case s.name == "drop" && i == s.i:
			continue
		case s.name == "swap" && i == s.i:
			x = p[s.to][s.k]
		case s.name == "swap" && i == s.k:
			x = p[s.to][s.i]
		case s.name == "forge" && i == s.i:
			x = s.text
		case s.name == "turn" && i == s.i:
			x = turnedByHand(x, s.k, s.bits)
		}
		next = append(next, x)
	}
	switch s.name {
	case "send":
		next = append(next, s.text)
	case "double":
		next = append(next, p[s.to][s.i])
	}
	p[s.to] = next
	return taken
}

// drawStep draws a step of these names; places are drawn somewhat beyond those that are.
func drawStep(r *rand.Rand, names []string, size int) step {
	s := step{name: names[r.Intn(len(names))], to: r.Intn(2)}
	if r.Intn(50) == 0 {
		s.to = noParties()[r.Intn(len(noParties()))]
	}
	s.i = r.Intn(size+3) - 1
	s.k = r.Intn(size+3) - 1
	if s.name == "turn" {
		s.k = r.Intn(8) - 1
	}
	s.bits = byte(r.Intn(256))
	s.text = drawText(r)
	return s
}

// drawText draws a few bytes, now and then too many.
func drawText(r *rand.Rand) string {
	if r.Intn(200) == 0 {
		return longBytes
	}
	l := make([]byte, r.Intn(7))
	for i := range l {
		l[i] = byte(r.Intn(256))
	}
	return string(l)
}

// P12.4

// names are those of the steps: often sent, so that ways fill.
func names(more ...string) []string {
	return append(more, "send", "send", "send", "send", "double", "double", "take", "drop", "swap", "len")
}

func TestDrawnStepsAgainstAPlainNetwork(t *testing.T) {
	for seed := range int64(60) {
		r := rand.New(rand.NewSource(seed))
		n, p := net.New(), &plainNet{}
		l := names("forge", "turn")
		if seed%3 == 0 {
			l = append(l, "clear")
		}
		for count := range 1500 {
			s := drawStep(r, l, max(n.Len(0), n.Len(1)))
			followStep(t, n, p, s)
			if t.Failed() {
				t.Fatalf("of seed %d at step %d", seed, count)
			}
		}
	}
}

// followStep makes a step on both networks, and holds them against each other.
func followStep(t *testing.T, n *net.Net, p *plainNet, s step) {
	t.Helper()
	want := p.wrong(s)
	wantTaken, wantSize := "", 0
	if s.to == 0 || s.to == 1 {
		wantSize = len(p[s.to])
		if want == api.OK {
			wantTaken = p.do(s)
		}
	}
	if s.name != "len" {
		wantSize = 0
	}
	got := s.run(n)
	if got != want || s.taken != wantTaken || s.size != wantSize {
		t.Errorf("%s to %d at %d, %d with %.20q: the error %d, not %d; %q is told, not %q; %d, not %d", s.name, s.to, s.i, s.k, s.text, got, want, s.taken, wantTaken, s.size, wantSize)
	}
	for to := range 2 {
		if all := n.All(to); !slices.Equal(all, p[to]) || n.Len(to) != len(all) || len(all) > api.MaxNet {
			t.Errorf("behind %s to %d at %d, %d: on their way to %d are %d, %q, not %q", s.name, s.to, s.i, s.k, to, n.Len(to), all, p[to])
		}
	}
}

func TestDrawnStepsFillWays(t *testing.T) {
	r := rand.New(rand.NewSource(7))
	n := net.New()
	full := 0
	for range 3000 {
		s := drawStep(r, names(), 4)
		if s.run(n) == api.ErrFull {
			full++
		}
	}
	if full < 100 {
		t.Errorf("no more than %d steps found a way full: the drawn steps say too little", full)
	}
}

// Without a change all that arrives at a party was sent to it, no more often than it was sent and doubled.
func TestWithoutAChangeAllThatArrivesWasSent(t *testing.T) {
	for seed := range int64(40) {
		r := rand.New(rand.NewSource(seed))
		n := net.New()
		var sent, left [2]map[string]int
		for to := range 2 {
			sent[to], left[to] = map[string]int{}, map[string]int{}
		}
		for range 1500 {
			s := drawStep(r, names("take", "take"), 6)
			doubled := ""
			if s.name == "double" && s.to >= 0 && s.to < 2 && s.i >= 0 && s.i < n.Len(s.to) {
				doubled = n.All(s.to)[s.i]
			}
			if s.run(n) != api.OK {
				continue
			}
			switch s.name {
			case "send":
				sent[s.to][s.text]++
				left[s.to][s.text]++
			case "double":
				left[s.to][doubled]++
			case "take":
				left[s.to][s.taken]--
				if sent[s.to][s.taken] == 0 || left[s.to][s.taken] < 0 {
					t.Fatalf("of seed %d: %q arrived at %d, sent %d times", seed, s.taken, s.to, sent[s.to][s.taken])
				}
			}
		}
		for to := range 2 {
			for _, text := range n.All(to) {
				if left[to][text]--; left[to][text] < 0 {
					t.Fatalf("of seed %d: %q is on its way to %d more often than it may", seed, text, to)
				}
			}
		}
	}
}

// Never more than 64 are on their way, by Send and by Double, whatever comes between.
func TestNeverMoreThan64(t *testing.T) {
	for _, taken := range []int{0, 1, 5, 64} {
		n := net.New()
		ok(t, n.Send(0, "a"))
		for n.Len(0) < 64 {
			ok(t, n.Double(0, n.Len(0)-1))
		}
		for range taken {
			ok(t, n.Drop(0, 0))
		}
		for range 200 {
			n.Send(0, "b")
			n.Double(0, 0)
			n.Forge(0, 0, "c")
			n.Swap(0, 0, 63)
			if n.Len(0) > 64 || len(n.All(0)) > 64 {
				t.Fatalf("%d are on their way", n.Len(0))
			}
		}
		if n.Len(0) != 64 {
			t.Fatalf("%d are on their way", n.Len(0))
		}
	}
}

// Rules that hold everywhere: memory, and from arguments alone

// text makes a text of bytes that may be changed behind its back.
func text(b []byte) string { return unsafe.String(unsafe.SliceData(b), len(b)) }

func TestWhatIsHandedInIsNotKept(t *testing.T) {
	b, f := []byte("abc"), []byte("forged")
	n := net.New()
	ok(t, n.Send(0, text(b)))
	ok(t, n.Send(0, "place"))
	ok(t, n.Forge(0, 1, text(f)))
	copy(b, "xyz")
	copy(f, "xxxxxx")
	holds(t, n, 0, "abc", "forged")
}

func TestWhatIsHandedInIsNotChanged(t *testing.T) {
	b := []byte("abc")
	n := net.New()
	ok(t, n.Send(0, text(b)))
	ok(t, n.Turn(0, 0, 0, 255))
	ok(t, n.Forge(0, 0, text(b)))
	ok(t, n.Turn(0, 0, 1, 255))
	if string(b) != "abc" {
		t.Errorf("%q", b)
	}
}

// apart asks that no two texts lie in one memory.
func apart(t *testing.T, texts ...string) {
	t.Helper()
	for i, a := range texts {
		for _, b := range texts[:i] {
			if unsafe.StringData(a) == unsafe.StringData(b) {
				t.Fatalf("two of %q share memory", texts)
			}
		}
	}
}

func TestAnswersAreNewMemory(t *testing.T) {
	sent := strings.Repeat("s", 20)
	n := net.New()
	ok(t, n.Send(0, sent))
	ok(t, n.Double(0, 0))
	ok(t, n.Send(0, "changed by a turn"))
	ok(t, n.Turn(0, 2, 0, 0))
	first, second := n.All(0), n.All(0)
	told := append(append([]string{sent}, first...), second...)
	for i := range first {
		first[i] = "changed"
	}
	_ = append(second[:0], "changed", "changed", "changed", "changed")
	holds(t, n, 0, sent, sent, "changed by a turn")
	for range 3 {
		s, code := n.Take(0, 0)
		ok(t, code)
		told = append(told, s)
	}
	apart(t, told...)
}

func TestALongerAnswerLeavesTheNetwork(t *testing.T) {
	n := netWith(t, 0, "a", "b")
	l := n.All(0)
	_ = append(l, "c", "d")
	ok(t, n.Send(0, "e"))
	holds(t, n, 0, "a", "b", "e")
	if !slices.Equal(l, []string{"a", "b"}) {
		t.Errorf("a later Send changed an answer: %q", l)
	}
	for _, x := range l[:cap(l)][len(l):] {
		if x == "e" {
			t.Error("a later Send wrote into an answer's spare room")
		}
	}
}

func TestLaterStepsLeaveAnswers(t *testing.T) {
	n := netWith(t, 0, "a", "b", "c")
	l := n.All(0)
	ok(t, n.Turn(0, 0, 0, 255))
	ok(t, n.Swap(0, 1, 2))
	ok(t, n.Forge(0, 1, "f"))
	ok(t, n.Drop(0, 0))
	ok(t, n.Clear(0))
	ok(t, n.Send(0, "n"))
	if !slices.Equal(l, []string{"a", "b", "c"}) {
		t.Errorf("%q", l)
	}
}

func TestTheSameStepsComeToTheSame(t *testing.T) {
	run := func() ([]string, []api.Errno) {
		r := rand.New(rand.NewSource(11))
		n := net.New()
		var codes []api.Errno
		var told []string
		for range 500 {
			s := drawStep(r, names("forge", "turn"), 5)
			codes = append(codes, s.run(n))
			told = append(told, s.taken)
		}
		return append(told, append(n.All(0), n.All(1)...)...), codes
	}
	told, codes := run()
	again, codesAgain := run()
	if !slices.Equal(told, again) || !slices.Equal(codes, codesAgain) {
		t.Error("the same steps came to something else")
	}
}
