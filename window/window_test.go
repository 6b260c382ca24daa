package window_test

import (
	"math"
	"slices"
	"strconv"
	"strings"
	"testing"

	"trefoil/api"
	"trefoil/window"
)

const last = math.MaxUint32 - 1 // 2^32 - 2: the last number that a body has

// ok asks that there is no error.
func ok(t *testing.T, code api.Errno) {
	t.Helper()
	if code != api.OK {
		t.Fatalf("the error %d", code)
	}
}

// fails asks for an error.
func fails(t *testing.T, got, want api.Errno) {
	t.Helper()
	if got != want {
		t.Fatalf("the error %d, not %d", got, want)
	}
}

// list numbers bodies one behind the other.
func list(first uint32, bodies ...string) []window.Numbered {
	var l []window.Numbered
	for i, body := range bodies {
		l = append(l, window.Numbered{Seq: first + uint32(i), Body: body})
	}
	return l
}

// texts are so many bodies, each unlike the others.
func texts(count int) []string {
	l := make([]string, count)
	for i := range l {
		l[i] = "body " + strconv.Itoa(i)
	}
	return l
}

// outIs asks that these bodies, from a number on, are all that an Out has sent and doesn't know to have come.
func outIs(t *testing.T, o *window.Out, first uint32, bodies ...string) {
	t.Helper()
	if got, want := o.Pending(), list(first, bodies...); !slices.Equal(got, want) {
		t.Fatalf("pending are %.300v, not %.300v", got, want)
	}
	if got := o.Room(); got != 16-len(bodies) {
		t.Fatalf("room for %d beside %d", got, len(bodies))
	}
	if got, want := o.Next(), first+uint32(len(bodies)); got != want {
		t.Fatalf("the next number is %d, not %d", got, want)
	}
}

// inIs asks what an In awaits and holds.
func inIs(t *testing.T, x *window.In, awaited uint32, held ...window.Numbered) {
	t.Helper()
	if got := x.Awaited(); got != awaited {
		t.Fatalf("%d is awaited, not %d", got, awaited)
	}
	if got := x.Held(); !slices.Equal(got, held) {
		t.Fatalf("held are %.300v, not %.300v", got, held)
	}
}

// put sends bodies and asks for their numbers.
func put(t *testing.T, o *window.Out, first uint32, bodies ...string) {
	t.Helper()
	for i, body := range bodies {
		seq, code := o.Put(body)
		if code != api.OK || seq != first+uint32(i) {
			t.Fatalf("the body %q: the number %d with the error %d, not %d", body, seq, code, first+uint32(i))
		}
	}
}

// putFails asks for an error of a Put, beside which nothing is told.
func putFails(t *testing.T, o *window.Out, want api.Errno) {
	t.Helper()
	for _, body := range []string{"", "a", "more of it"} {
		if seq, code := o.Put(body); seq != 0 || code != want {
			t.Fatalf("the body %q: the number %d with the error %d, not %d", body, seq, code, want)
		}
	}
}

// tells takes a body, and asks for what is told.
func tells(t *testing.T, x *window.In, seq uint32, body string, bodies ...string) {
	t.Helper()
	got, code := x.Take(seq, body)
	if code != api.OK || !slices.Equal(got, bodies) {
		t.Fatalf("Take(%d, %.40q): %.300q with the error %d, not %.300q", seq, body, got, code, bodies)
	}
}

// takeFails asks for an error of a Take, beside which nothing is told.
func takeFails(t *testing.T, x *window.In, seq uint32, want api.Errno) {
	t.Helper()
	for _, body := range []string{"", "a", "another one"} {
		if got, code := x.Take(seq, body); len(got) != 0 || code != want {
			t.Fatalf("Take(%d, %q): %q with the error %d, not %d", seq, body, got, code, want)
		}
	}
}

// bases are numbers up to which bodies may have come, with room behind them for 16 others.
func bases() []uint32 {
	return []uint32{0, 1, 2, 15, 16, 17, 255, 256, 65535, 65536, math.MaxInt32, 1 << 31, last - 17, last - 16}
}

// P13.1

func TestAZeroOutHasNoneAndBeginsWith1(t *testing.T) {
	var o window.Out
	outIs(t, &o, 1)
	put(t, &o, 1, "a", "b")
	outIs(t, &o, 1, "a", "b")
}

func TestFromBeginsBehindItsBase(t *testing.T) {
	for _, base := range append(bases(), last-1, last) {
		o := window.From(base)
		if o == nil {
			t.Fatalf("From(%d) is nil", base)
		}
		outIs(t, o, base+1)
	}
}

func TestFrom0IsAZeroOut(t *testing.T) {
	o := window.From(0)
	put(t, o, 1, "a")
	ok(t, o.Ack(2))
	outIs(t, o, 2)
}

// A base beyond the last number is no base that may be: the Out is one behind whose last number there is none.
func TestFromBeyondTheLastNumber(t *testing.T) {
	o := window.From(math.MaxUint32)
	outIs(t, o, math.MaxUint32)
	putFails(t, o, api.ErrCount)
	fails(t, o.Ack(0), api.ErrGap)
	ok(t, o.Ack(1))
	ok(t, o.Ack(math.MaxUint32))
	outIs(t, o, math.MaxUint32)
}

func TestEachFromIsAnOutOfItsOwn(t *testing.T) {
	a, b := window.From(7), window.From(7)
	put(t, a, 8, "a")
	outIs(t, b, 8)
	put(t, b, 8, "b", "c")
	outIs(t, a, 8, "a")
}

func TestPendingNextAndRoomBehindEachPut(t *testing.T) {
	for _, base := range bases() {
		o := window.From(base)
		all := texts(16)
		for i, body := range all {
			put(t, o, base+1+uint32(i), body)
			outIs(t, o, base+1, all[:i+1]...)
		}
		if o.Room() != 0 || o.Next() != base+17 {
			t.Fatalf("room for %d, and the number %d", o.Room(), o.Next())
		}
	}
}

func TestAskingChangesNothing(t *testing.T) {
	o := window.From(3)
	put(t, o, 4, "a", "b")
	for range 3 {
		outIs(t, o, 4, "a", "b")
	}
	x := &window.In{}
	tells(t, x, 3, "c")
	for range 3 {
		inIs(t, x, 1, list(3, "c")...)
	}
}

// P13.2

func TestBodiesAreWhatTheyWere(t *testing.T) {
	o, x := &window.Out{}, &window.In{}
	all := []string{"", "\x00", "same", "same", "\xff\xfe\x80", strings.Repeat("long", api.MaxMsg), ""}
	put(t, o, 1, all...)
	outIs(t, o, 1, all...)
	for i := len(all) - 1; i > 0; i-- {
		tells(t, x, uint32(i+1), all[i])
	}
	inIs(t, x, 1, list(2, all[1:]...)...)
	tells(t, x, 1, all[0], all...)
}

func TestPutWithoutRoom(t *testing.T) {
	for _, base := range bases() {
		o := window.From(base)
		all := texts(16)
		put(t, o, base+1, all...)
		putFails(t, o, api.ErrWindow)
		outIs(t, o, base+1, all...)
		ok(t, o.Ack(base+1))
		putFails(t, o, api.ErrWindow)
		ok(t, o.Ack(base+2))
		outIs(t, o, base+2, all[1:]...)
	}
}

func TestPutAgainBehindRoomThatWasMade(t *testing.T) {
	o := &window.Out{}
	all := texts(100)
	put(t, o, 1, all[:16]...)
	for i := 16; i < len(all); i++ {
		putFails(t, o, api.ErrWindow)
		ok(t, o.Ack(uint32(i-14)))
		put(t, o, uint32(i+1), all[i])
		outIs(t, o, uint32(i-14), all[i-15:i+1]...)
	}
}

func TestPutUpToTheLastNumber(t *testing.T) {
	for left := range uint32(16) {
		o := window.From(last - left)
		all := texts(int(left))
		put(t, o, last-left+1, all...)
		putFails(t, o, api.ErrCount)
		outIs(t, o, last-left+1, all...)
		ok(t, o.Ack(math.MaxUint32))
		putFails(t, o, api.ErrCount)
		outIs(t, o, math.MaxUint32)
	}
}

// Without room and without a number, it is the room that is told of.
func TestNoRoomComesBeforeNoNumber(t *testing.T) {
	o := window.From(last - 16)
	all := texts(16)
	put(t, o, last-15, all...)
	putFails(t, o, api.ErrWindow)
	outIs(t, o, last-15, all...)
	ok(t, o.Ack(last-14))
	putFails(t, o, api.ErrCount)
	outIs(t, o, last-14, all[1:]...)
}

func TestAckOfEachNumber(t *testing.T) {
	for _, base := range bases() {
		for size := range 17 {
			all := texts(size)
			for come := range size + 1 {
				o := window.From(base)
				put(t, o, base+1, all...)
				ok(t, o.Ack(base+1+uint32(come)))
				outIs(t, o, base+1+uint32(come), all[come:]...)
			}
		}
	}
}

func TestAckOfWhatHasComeAlready(t *testing.T) {
	for _, base := range bases() {
		o := window.From(base)
		put(t, o, base+1, "a", "b", "c")
		ok(t, o.Ack(base+3))
		for _, n := range []uint32{1, 2, base/2 + 1, base + 1, base + 2, base + 3} {
			if n > base+3 {
				continue
			}
			ok(t, o.Ack(n))
			outIs(t, o, base+3, "c")
		}
		if base > 0 {
			ok(t, o.Ack(base))
			outIs(t, o, base+3, "c")
		}
	}
}

func TestAckOfNoNumber(t *testing.T) {
	for _, base := range append(bases(), last-3) {
		for size := range 4 {
			o := window.From(base)
			all := texts(size)
			put(t, o, base+1, all...)
			fails(t, o.Ack(0), api.ErrGap)
			for _, n := range []uint32{o.Next() + 1, o.Next() + 2, o.Next() + 16, o.Next() + 17, 1 << 31, last, math.MaxUint32} {
				if n > o.Next() {
					fails(t, o.Ack(n), api.ErrGap)
				}
			}
			outIs(t, o, base+1, all...)
		}
	}
}

func TestAckOfAZeroOut(t *testing.T) {
	var o window.Out
	ok(t, o.Ack(1))
	fails(t, o.Ack(0), api.ErrGap)
	fails(t, o.Ack(2), api.ErrGap)
	fails(t, o.Ack(math.MaxUint32), api.ErrGap)
	outIs(t, &o, 1)
}

// P13.3

func TestAZeroInHasNoneAndAwaits1(t *testing.T) {
	var x window.In
	inIs(t, &x, 1)
	takeFails(t, &x, 0, api.ErrStale)
	inIs(t, &x, 1)
}

func TestTheChaptersExample(t *testing.T) {
	var x window.In
	tells(t, &x, 2, "b")
	tells(t, &x, 1, "a", "a", "b")
	takeFails(t, &x, 1, api.ErrStale)
	inIs(t, &x, 3)
}

// inAt makes an In that awaits a number.
func inAt(t *testing.T, awaited uint32) *window.In {
	t.Helper()
	x := &window.In{}
	for seq := uint32(1); seq < awaited; seq++ {
		body := "told " + strconv.Itoa(int(seq))
		tells(t, x, seq, body, body)
	}
	inIs(t, x, awaited)
	return x
}

func TestTakeInOrder(t *testing.T) {
	x := inAt(t, 200)
	tells(t, x, 200, "", "")
	tells(t, x, 201, "a", "a")
	inIs(t, x, 202)
}

func TestTakeOfEachPlaceOfTheWindow(t *testing.T) {
	for _, awaited := range []uint32{1, 2, 16, 17, 100} {
		for ahead := uint32(1); ahead < 16; ahead++ {
			x := inAt(t, awaited)
			tells(t, x, awaited+ahead, "ahead")
			inIs(t, x, awaited, list(awaited+ahead, "ahead")...)
			takeFails(t, x, awaited+ahead, api.ErrStale)
			inIs(t, x, awaited, list(awaited+ahead, "ahead")...)
			if ahead > 1 {
				tells(t, x, awaited, "first", "first")
				inIs(t, x, awaited+1, list(awaited+ahead, "ahead")...)
				continue
			}
			tells(t, x, awaited, "first", "first", "ahead")
			inIs(t, x, awaited+2)
		}
	}
}

func TestTakeOfWhatWasTold(t *testing.T) {
	for _, awaited := range []uint32{1, 2, 16, 17, 100} {
		x := inAt(t, awaited)
		tells(t, x, awaited+2, "ahead")
		for seq := range awaited {
			takeFails(t, x, seq, api.ErrStale)
		}
		inIs(t, x, awaited, list(awaited+2, "ahead")...)
	}
}

func TestTakeTooFarAhead(t *testing.T) {
	for _, awaited := range []uint32{1, 2, 16, 17, 100} {
		x := inAt(t, awaited)
		tells(t, x, awaited+15, "edge")
		for _, far := range []uint32{awaited + 16, awaited + 17, awaited + 31, awaited + 32, awaited + 256, awaited + 65536, 1 << 31, last, math.MaxUint32} {
			takeFails(t, x, far, api.ErrWindow)
		}
		inIs(t, x, awaited, list(awaited+15, "edge")...)
	}
}

// The window goes on with what is awaited, not with what comes.
func TestTheWindowGoesOn(t *testing.T) {
	x := &window.In{}
	takeFails(t, x, 17, api.ErrWindow)
	tells(t, x, 1, "1", "1")
	tells(t, x, 17, "17")
	takeFails(t, x, 18, api.ErrWindow)
	tells(t, x, 3, "3")
	takeFails(t, x, 18, api.ErrWindow)
	tells(t, x, 2, "2", "2", "3")
	takeFails(t, x, 20, api.ErrWindow)
	tells(t, x, 19, "19")
	inIs(t, x, 4, window.Numbered{Seq: 17, Body: "17"}, window.Numbered{Seq: 19, Body: "19"})
}

func TestHeldUpToAGap(t *testing.T) {
	for gap := range 15 {
		x := &window.In{}
		all := texts(16)
		var behind []window.Numbered
		for i := 15; i > 0; i-- {
			if i == gap+1 {
				continue
			}
			tells(t, x, uint32(i+1), all[i])
			if i > gap+1 {
				behind = append(list(uint32(i+1), all[i]), behind...)
			}
		}
		tells(t, x, 1, all[0], all[:gap+1]...)
		inIs(t, x, uint32(gap+2), behind...)
		tells(t, x, uint32(gap+2), all[gap+1], all[gap+1:]...)
		inIs(t, x, 17)
	}
}

func TestAFullWindow(t *testing.T) {
	x := inAt(t, 50)
	all := texts(16)
	for i := 1; i < 16; i++ {
		tells(t, x, 50+uint32(i), all[i])
	}
	inIs(t, x, 50, list(51, all[1:]...)...)
	takeFails(t, x, 66, api.ErrWindow)
	for seq := uint32(51); seq < 66; seq++ {
		takeFails(t, x, seq, api.ErrStale)
	}
	tells(t, x, 50, all[0], all...)
	inIs(t, x, 66)
	for seq := range uint32(66) {
		takeFails(t, x, seq, api.ErrStale)
	}
	tells(t, x, 66, "next", "next")
}

// What is held stays what it was, whatever comes under its number.
func TestTheFirstBodyOfANumberHolds(t *testing.T) {
	x := &window.In{}
	tells(t, x, 2, "first")
	takeFails(t, x, 2, api.ErrStale)
	tells(t, x, 1, "a", "a", "first")
}

func TestEmptyBodiesAreHeldToo(t *testing.T) {
	x := &window.In{}
	tells(t, x, 2, "")
	inIs(t, x, 1, list(2, "")...)
	takeFails(t, x, 2, api.ErrStale)
	tells(t, x, 1, "", "", "")
	inIs(t, x, 3)
}

func TestEachInIsOneOfItsOwn(t *testing.T) {
	var a, b window.In
	tells(t, &a, 2, "a")
	inIs(t, &b, 1)
	tells(t, &b, 2, "b")
	tells(t, &a, 1, "", "", "a")
	inIs(t, &b, 1, list(2, "b")...)
}

// Of nil

func TestNil(t *testing.T) {
	var o *window.Out
	putFails(t, o, api.ErrNil)
	for _, n := range []uint32{0, 1, 2, 17, last, math.MaxUint32} {
		fails(t, o.Ack(n), api.ErrNil)
	}
	if o.Next() != 0 || len(o.Pending()) != 0 || o.Room() != 0 {
		t.Error(o.Next(), o.Pending(), o.Room())
	}
	var x *window.In
	for _, seq := range []uint32{0, 1, 2, 17, last, math.MaxUint32} {
		takeFails(t, x, seq, api.ErrNil)
	}
	if x.Awaited() != 0 || len(x.Held()) != 0 {
		t.Error(x.Awaited(), x.Held())
	}
}
