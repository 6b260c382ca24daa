package link_test

import (
	"encoding/binary"
	"errors"
	"fmt"
	"math"
	"slices"
	"strconv"
	"strings"
	"testing"

	"trefoil/api"
	"trefoil/fault"
	"trefoil/frame"
	"trefoil/link"
)

const top = math.MaxUint32

var (
	fullBody = strings.Repeat("0123456789abcdef", 1<<12)
	longBody = fullBody + "x"
)

// laid are the bytes of a frame, wrong or not, each put there by hand.
func laid(kind int, own, peer, seq, ack uint32, body string) string {
	b := []byte{byte(kind)}
	for _, x := range []uint32{own, peer, seq, ack} {
		b = binary.BigEndian.AppendUint32(b, x)
	}
	return string(append(b, body...))
}

func hello(own, peer uint32) string      { return laid(1, own, peer, 0, 0, "") }
func quiet(own, peer, ack uint32) string { return laid(3, own, peer, 0, ack, "") }
func data(own, peer, seq, ack uint32, body string) string {
	return laid(2, own, peer, seq, ack, body)
}

// texts are so many bodies, each unlike the others, numbered from first on.
func texts(first, count int) []string {
	l := make([]string, count)
	for i := range l {
		l[i] = "body " + strconv.Itoa(first+i)
	}
	return l
}

// datas are the frames of these texts' bodies.
func datas(own, peer uint32, first, count int, ack uint32) []string {
	var l []string
	for i, body := range texts(first, count) {
		l = append(l, data(own, peer, uint32(first+i), ack, body))
	}
	return l
}

func isFault(err error, code api.Errno) bool {
	if code == api.OK {
		return err == nil
	}
	return fault.Code(err) == code && errors.Is(err, code)
}

// made is a new end.
func made(t *testing.T, own uint32) *link.Link {
	t.Helper()
	l, err := link.New(own)
	if l == nil || err != nil {
		t.Fatalf("New(%d): %v, %v", own, l, err)
	}
	return l
}

// greeted is an end that knows the other one's start, but isn't sure, and owes no answer.
func greeted(t *testing.T, own, peer uint32) *link.Link {
	t.Helper()
	l := made(t, own)
	brings(t, l, hello(peer, 0), nil, false, api.OK)
	flushes(t, l, hello(own, peer))
	return l
}

// sure is an end that is sure, and owes no answer.
func sure(t *testing.T, own, peer uint32) *link.Link {
	t.Helper()
	l := made(t, own)
	brings(t, l, hello(peer, own), nil, false, api.OK)
	flushes(t, l, quiet(own, peer, 1))
	return l
}

// is asks all that an end tells of itself.
func is(t *testing.T, l *link.Link, own, peer uint32, ready bool, room, waiting int) {
	t.Helper()
	got := fmt.Sprint(l.Own(), l.Peer(), l.Ready(), l.Room(), l.Waiting())
	want := fmt.Sprint(own, peer, ready, room, waiting)
	if got != want {
		t.Fatalf("own, peer, ready, room, waiting are %s, not %s", got, want)
	}
}

// sends sends bodies.
func sends(t *testing.T, l *link.Link, bodies ...string) {
	t.Helper()
	for _, body := range bodies {
		if err := l.Send(body); err != nil {
			t.Fatalf("Send of %.30q: %v", body, err)
		}
	}
}

// refuses asks for the error of a body, or for none.
func refuses(t *testing.T, l *link.Link, body string, want api.Errno) {
	t.Helper()
	if err := l.Send(body); !isFault(err, want) {
		t.Fatalf("Send of %d bytes: %v, not %d", len(body), err, want)
	}
}

// areFrames asks for frames.
func areFrames(t *testing.T, got, want []string) {
	t.Helper()
	if !slices.Equal(got, want) {
		t.Fatalf("the frames are %d %.1000q, not %d %.1000q", len(got), got, len(want), want)
	}
}

func flushes(t *testing.T, l *link.Link, want ...string) {
	t.Helper()
	areFrames(t, l.Flush(), want)
}

func ticks(t *testing.T, l *link.Link, want ...string) {
	t.Helper()
	areFrames(t, l.Tick(), want)
}

// brings lets a frame come, and asks what it brings.
func brings(t *testing.T, l *link.Link, s string, bodies []string, anew bool, want api.Errno) {
	t.Helper()
	got, err := l.Receive(s)
	if !slices.Equal(got.Bodies, bodies) || got.Anew != anew || !isFault(err, want) {
		t.Fatalf("Receive of %.40q: %.200q, %v, %v, not %.200q, %v, %d", s, got.Bodies, got.Anew, err, bodies, anew, want)
	}
}

// P14.1

func TestNew(t *testing.T) {
	for _, own := range []uint32{1, 2, 3, 255, 1 << 20, 1 << 31, top - 1, top} {
		is(t, made(t, own), own, 0, false, 0, 0)
	}
}

func TestNewOfNoStart(t *testing.T) {
	if l, err := link.New(0); l != nil || !isFault(err, api.ErrEpoch) {
		t.Errorf("New(0): %v, %v", l, err)
	}
}

func TestPeerAndReady(t *testing.T) {
	for _, own := range []uint32{1, 7, top} {
		for _, peer := range []uint32{1, 7, top} {
			is(t, greeted(t, own, peer), own, peer, false, 0, 0)
			is(t, sure(t, own, peer), own, peer, true, 64, 0)
		}
	}
}

func TestRoomAndWaiting(t *testing.T) {
	if link.Queue != 64 {
		t.Fatalf("Queue is %d", link.Queue)
	}
	l := sure(t, 3, 7)
	for i := range 64 {
		is(t, l, 3, 7, true, 64-i, i)
		sends(t, l, "body")
	}
	is(t, l, 3, 7, true, 0, 64)
	l.Flush() // sixteen are on their way, and wait no more
	is(t, l, 3, 7, true, 16, 64)
	sends(t, l, texts(65, 16)...)
	is(t, l, 3, 7, true, 0, 80)
	brings(t, l, quiet(7, 3, 11), nil, false, api.OK)
	is(t, l, 3, 7, true, 0, 70)
	l.Tick()
	is(t, l, 3, 7, true, 10, 70)
	brings(t, l, quiet(7, 3, 27), nil, false, api.OK)
	is(t, l, 3, 7, true, 10, 54)
	l.Flush()
	is(t, l, 3, 7, true, 26, 54)
}

func TestOfNilAndOfWhatNoCallMade(t *testing.T) {
	for _, l := range []*link.Link{nil, {}, new(link.Link)} {
		for range 2 {
			is(t, l, 0, 0, false, 0, 0)
			refuses(t, l, "body", api.ErrNil)
			refuses(t, l, longBody, api.ErrNil)
			flushes(t, l)
			ticks(t, l)
			for _, s := range []string{"", "x", hello(1, 0), quiet(1, 1, 1), data(1, 1, 1, 1, "a"), hello(1, 0)[:16]} {
				brings(t, l, s, nil, false, api.ErrNil)
			}
		}
	}
}

// P14.2

func TestSendOfWhoIsNotSure(t *testing.T) {
	for _, l := range []*link.Link{made(t, 3), greeted(t, 3, 7)} {
		for _, body := range []string{"", "body", fullBody, longBody} {
			refuses(t, l, body, api.ErrState)
		}
		is(t, l, 3, l.Peer(), false, 0, 0)
		flushes(t, l)
		brings(t, l, quiet(7, 3, 1), nil, false, api.OK)
		ticks(t, l, quiet(3, 7, 1)) // what was refused doesn't come later
	}
}

func TestSendOfLongBodies(t *testing.T) {
	l := sure(t, 3, 7)
	refuses(t, l, longBody, api.ErrLimit)
	refuses(t, l, longBody+fullBody, api.ErrLimit)
	is(t, l, 3, 7, true, 64, 0)
	flushes(t, l)
	sends(t, l, fullBody, "")
	is(t, l, 3, 7, true, 62, 2)
	flushes(t, l, data(3, 7, 1, 1, fullBody), data(3, 7, 2, 1, ""))
}

func TestSendOfTooMany(t *testing.T) {
	l := sure(t, 3, 7)
	sends(t, l, texts(1, 64)...)
	refuses(t, l, "body", api.ErrFull)
	refuses(t, l, "", api.ErrFull)
	refuses(t, l, fullBody, api.ErrFull)
	refuses(t, l, longBody, api.ErrLimit) // named ahead of ErrFull
	is(t, l, 3, 7, true, 0, 64)
	flushes(t, l, datas(3, 7, 1, 16, 1)...)
	sends(t, l, texts(65, 16)...)
	refuses(t, l, "body", api.ErrFull)
	for first := 17; first <= 65; first += 16 {
		brings(t, l, quiet(7, 3, uint32(first)), nil, false, api.OK)
		flushes(t, l, datas(3, 7, first, 16, 1)...)
	}
	is(t, l, 3, 7, true, 64, 16)
}

// P14.3

func TestFlushWithoutAnything(t *testing.T) {
	for _, l := range []*link.Link{made(t, 3), greeted(t, 3, 7), sure(t, 3, 7)} {
		flushes(t, l)
		flushes(t, l)
	}
}

func TestFlushOfAnAnswer(t *testing.T) {
	l := made(t, 3)
	brings(t, l, hello(7, 0), nil, false, api.OK)
	flushes(t, l, hello(3, 7))
	flushes(t, l)
	brings(t, l, hello(7, 3), nil, false, api.OK)
	flushes(t, l, quiet(3, 7, 1))
	flushes(t, l)
	brings(t, l, data(7, 3, 1, 1, "a"), []string{"a"}, false, api.OK)
	brings(t, l, data(7, 3, 2, 1, "b"), []string{"b"}, false, api.OK)
	flushes(t, l, quiet(3, 7, 3)) // one for both
	flushes(t, l)
}

func TestFlushOfBodies(t *testing.T) {
	l := sure(t, 3, 7)
	sends(t, l, texts(1, 20)...)
	flushes(t, l, datas(3, 7, 1, 16, 1)...)
	flushes(t, l) // not once more
	brings(t, l, data(7, 3, 1, 6, "a"), []string{"a"}, false, api.OK)
	is(t, l, 3, 7, true, 60, 15)
	flushes(t, l, datas(3, 7, 17, 4, 2)...)
	flushes(t, l) // a body's frame is an answer, too
	sends(t, l, texts(21, 3)...)
	flushes(t, l, datas(3, 7, 21, 1, 2)...)
	brings(t, l, data(7, 3, 2, 6, "b"), []string{"b"}, false, api.OK)
	flushes(t, l, quiet(3, 7, 3)) // two wait, but there is no room for them
	is(t, l, 3, 7, true, 62, 18)
}

func TestTickOfPlainFrames(t *testing.T) {
	l := made(t, 3)
	ticks(t, l, hello(3, 0))
	ticks(t, l, hello(3, 0))
	brings(t, l, hello(7, 2), nil, false, api.OK)
	ticks(t, l, hello(3, 7))
	flushes(t, l) // a tick was the answer
	ticks(t, l, hello(3, 7))
	brings(t, l, data(7, 3, 1, 1, "a"), []string{"a"}, false, api.OK)
	ticks(t, l, quiet(3, 7, 2))
	flushes(t, l)
	ticks(t, l, quiet(3, 7, 2))
}

func TestTickOfBodies(t *testing.T) {
	l := sure(t, 3, 7)
	sends(t, l, texts(1, 18)...)
	ticks(t, l, datas(3, 7, 1, 16, 1)...) // moved by the tick
	flushes(t, l)
	ticks(t, l, datas(3, 7, 1, 16, 1)...)
	brings(t, l, data(7, 3, 1, 4, "a"), []string{"a"}, false, api.OK)
	ticks(t, l, datas(3, 7, 4, 15, 2)...) // the older ones, and the two that have room now
	flushes(t, l)                         // each of them was an answer
	brings(t, l, quiet(7, 3, 18), nil, false, api.OK)
	ticks(t, l, datas(3, 7, 18, 1, 2)...)
	brings(t, l, quiet(7, 3, 19), nil, false, api.OK)
	ticks(t, l, quiet(3, 7, 2))
	is(t, l, 3, 7, true, 64, 0)
}

func TestAckIsWhatIsAwaitedNotWhatIsHeld(t *testing.T) {
	l := sure(t, 3, 7)
	brings(t, l, data(7, 3, 2, 1, "b"), nil, false, api.OK)
	flushes(t, l, quiet(3, 7, 1))
	sends(t, l, "x")
	flushes(t, l, data(3, 7, 1, 1, "x"))
	brings(t, l, data(7, 3, 1, 1, "a"), []string{"a", "b"}, false, api.OK)
	ticks(t, l, data(3, 7, 1, 3, "x"))
}

// P14.4

// wrongBytes are bytes that are no frame, under frame.Decode's error.
func wrongBytes() map[api.Errno][]string {
	return map[api.Errno][]string{
		api.ErrShort: {"", "x", hello(8, 3)[:16], data(7, 3, 1, 1, "")[:16], quiet(8, 3, 2)[:1], strings.Repeat("\xff", 16)},
		api.ErrKind:  {laid(0, 8, 3, 0, 0, ""), laid(4, 8, 3, 1, 1, "x"), laid(255, 8, 3, 0, 0, ""), strings.Repeat("\x00", 17)},
		api.ErrForm: {
			laid(1, 8, 3, 1, 0, ""), laid(1, 8, 3, 0, 1, ""), laid(1, 8, 3, 0, 0, "x"), laid(1, 0, 3, 0, 0, "x"),
			laid(2, 8, 3, 0, 1, "x"), laid(3, 8, 3, 1, 1, ""), laid(3, 8, 3, 0, 1, "x"),
		},
		api.ErrEpoch: {hello(0, 3), data(0, 3, 1, 1, "x"), data(8, 0, 1, 1, "x"), quiet(0, 3, 1), quiet(8, 0, 1), laid(3, 8, 0, 1, 1, "")},
		api.ErrLimit: {data(8, 3, 1, 1, longBody), data(7, 3, 1, 1, longBody), data(6, 3, 1, 1, longBody)},
	}
}

func TestReceiveOfNoFrameChangesNothing(t *testing.T) {
	for want, l := range wrongBytes() {
		for _, s := range l {
			x := made(t, 3)
			brings(t, x, s, nil, false, want)
			is(t, x, 3, 0, false, 0, 0)
			flushes(t, x)
			ticks(t, x, hello(3, 0))

			y := sure(t, 3, 7)
			sends(t, y, texts(1, 18)...)
			flushes(t, y, datas(3, 7, 1, 16, 1)...)
			brings(t, y, s, nil, false, want)
			is(t, y, 3, 7, true, 62, 18)
			flushes(t, y)
			ticks(t, y, datas(3, 7, 1, 16, 1)...)
		}
	}
}

// busy is an end in the midst of things: two bodies are on their way, and it holds one ahead of the one that is awaited.
func busy(t *testing.T) *link.Link {
	t.Helper()
	l := sure(t, 3, 7)
	brings(t, l, data(7, 3, 2, 1, "ahead"), nil, false, api.OK)
	sends(t, l, texts(1, 2)...)
	flushes(t, l, datas(3, 7, 1, 2, 1)...)
	return l
}

// isStillBusy asks that such an end is as it was.
func isStillBusy(t *testing.T, l *link.Link) {
	t.Helper()
	is(t, l, 3, 7, true, 64, 2)
	ticks(t, l, datas(3, 7, 1, 2, 1)...)
	brings(t, l, data(7, 3, 1, 1, "first"), []string{"first", "ahead"}, false, api.OK)
}

func TestReceiveOfAnEarlierStart(t *testing.T) {
	for _, s := range []string{
		hello(6, 3), hello(6, 0), hello(1, 9), quiet(6, 3, 3), quiet(6, 2, 3), quiet(6, 3, 0), quiet(1, 3, 99),
		data(6, 3, 1, 3, "past"), data(1, 2, 1, 1, "past"), data(6, 3, 1, 0, "past"), data(6, 3, top, 1, "past"),
	} {
		l := busy(t)
		brings(t, l, s, nil, false, api.ErrStale)
		flushes(t, l, quiet(3, 7, 1)) // an answer is owed
		isStillBusy(t, l)

		x := greeted(t, 3, 7)
		brings(t, x, s, nil, false, api.ErrStale)
		is(t, x, 3, 7, false, 0, 0)
		flushes(t, x, hello(3, 7))
	}
}

// Of a later start all that was begun is gone, whatever else is in the frame.
func TestReceiveOfALaterStart(t *testing.T) {
	for _, x := range []struct {
		s      string
		ready  bool
		bodies []string
		code   api.Errno
		answer string
	}{
		{hello(8, 0), false, nil, api.OK, hello(3, 8)},
		{hello(8, 2), false, nil, api.OK, hello(3, 8)},
		{hello(8, 4), false, nil, api.OK, hello(3, 8)},
		{hello(8, top), false, nil, api.OK, hello(3, 8)},
		{hello(8, 3), true, nil, api.OK, quiet(3, 8, 1)},
		{quiet(8, 2, 1), false, nil, api.ErrStale, hello(3, 8)},
		{quiet(8, 4, 0), false, nil, api.ErrStale, hello(3, 8)},
		{quiet(8, 3, 1), true, nil, api.OK, quiet(3, 8, 1)},
		{quiet(8, 3, 0), true, nil, api.ErrGap, quiet(3, 8, 1)},
		{quiet(8, 3, 2), true, nil, api.ErrGap, quiet(3, 8, 1)}, // of a new Out none was sent
		{data(8, 2, 1, 1, "a"), false, nil, api.ErrStale, hello(3, 8)},
		{data(8, 7, 1, 9, "a"), false, nil, api.ErrStale, hello(3, 8)},
		{data(8, 3, 1, 1, "a"), true, []string{"a"}, api.OK, quiet(3, 8, 2)}, // of a new In none is held
		{data(8, 3, 2, 1, "b"), true, nil, api.OK, quiet(3, 8, 1)},
		{data(8, 3, 16, 1, "p"), true, nil, api.OK, quiet(3, 8, 1)},
		{data(8, 3, 17, 1, "q"), true, nil, api.ErrWindow, quiet(3, 8, 1)},
		{data(8, 3, 1, 2, "a"), true, nil, api.ErrGap, quiet(3, 8, 1)},
		{data(8, 3, 1, 0, "a"), true, nil, api.ErrGap, quiet(3, 8, 1)},
	} {
		for _, anew := range []bool{true, false} {
			l := made(t, 3)
			if anew {
				l = busy(t)
				sends(t, l, texts(3, 30)...)
			}
			brings(t, l, x.s, x.bodies, anew, x.code)
			room := 0
			if x.ready {
				room = 64
			}
			is(t, l, 3, 8, x.ready, room, 0)
			flushes(t, l, x.answer)
			flushes(t, l)
			ticks(t, l, x.answer)
			brings(t, l, x.s[:16], nil, false, api.ErrShort)
			brings(t, l, hello(7, 3), nil, false, api.ErrStale)
		}
	}
}

func TestAnewOfWhoIsNotSure(t *testing.T) {
	l := greeted(t, 3, 7)
	brings(t, l, hello(8, 0), nil, true, api.OK)
	brings(t, l, quiet(9, 2, 5), nil, true, api.ErrStale)
	brings(t, l, hello(9, 0), nil, false, api.OK)
	brings(t, l, data(top, 3, 1, 7, "a"), nil, true, api.ErrGap)
	is(t, l, 3, top, true, 64, 0)
}

// The numbers of a new start begin anew, on both ways.
func TestNumbersBeginAnew(t *testing.T) {
	l := busy(t)
	brings(t, l, data(7, 3, 1, 3, "first"), []string{"first", "ahead"}, false, api.OK)
	brings(t, l, hello(9, 3), nil, true, api.OK)
	sends(t, l, texts(1, 2)...)
	flushes(t, l, datas(3, 9, 1, 2, 1)...)
	brings(t, l, data(9, 3, 1, 2, "a"), []string{"a"}, false, api.OK)
	ticks(t, l, datas(3, 9, 2, 1, 2)...)
}

func TestReceiveForAnotherStart(t *testing.T) {
	for _, peer := range []uint32{1, 2, 4, 7, top} {
		for _, s := range []string{quiet(7, peer, 3), quiet(7, peer, 0), data(7, peer, 1, 3, "x"), data(7, peer, 1, 99, "x"), data(7, peer, 99, 1, "x")} {
			l := busy(t)
			brings(t, l, s, nil, false, api.ErrStale)
			flushes(t, l, quiet(3, 7, 1))
			isStillBusy(t, l)

			x := greeted(t, 3, 7)
			brings(t, x, s, nil, false, api.ErrStale)
			is(t, x, 3, 7, false, 0, 0)
			flushes(t, x, hello(3, 7))
		}
	}
}

func TestReceiveOfHello(t *testing.T) {
	for _, peer := range []uint32{0, 2, 3, 4, top} {
		l := busy(t)
		brings(t, l, hello(7, peer), nil, false, api.OK)
		flushes(t, l, quiet(3, 7, 1)) // an answer is owed, and an end that is sure stays so
		isStillBusy(t, l)

		x := greeted(t, 3, 7)
		brings(t, x, hello(7, peer), nil, false, api.OK)
		if x.Ready() != (peer == 3) {
			t.Errorf("behind a Hello for %d: %v", peer, x.Ready())
		}
		if len(x.Flush()) != 1 {
			t.Errorf("behind a Hello for %d no answer is owed", peer)
		}
	}
}

func TestReceiveOfQuiet(t *testing.T) {
	l := greeted(t, 3, 7)
	brings(t, l, quiet(7, 3, 1), nil, false, api.OK)
	is(t, l, 3, 7, true, 64, 0)
	flushes(t, l) // a Quiet owes none

	sends(t, l, texts(1, 5)...)
	flushes(t, l, datas(3, 7, 1, 5, 1)...)
	for _, x := range []struct {
		ack     uint32
		code    api.Errno
		waiting int
	}{
		{1, api.OK, 5}, {3, api.OK, 3}, {2, api.OK, 3}, {0, api.ErrGap, 3}, {7, api.ErrGap, 3}, {top, api.ErrGap, 3}, {5, api.OK, 1}, {6, api.OK, 0}, {6, api.OK, 0}, {1, api.OK, 0},
	} {
		brings(t, l, quiet(7, 3, x.ack), nil, false, x.code)
		is(t, l, 3, 7, true, 64, x.waiting)
		flushes(t, l)
	}
}

// What waits isn't on its way yet, so that it can't have come.
func TestReceiveOfAnAckOfWhatWaits(t *testing.T) {
	l := sure(t, 3, 7)
	sends(t, l, "a")
	brings(t, l, quiet(7, 3, 2), nil, false, api.ErrGap)
	is(t, l, 3, 7, true, 63, 1)
	flushes(t, l, data(3, 7, 1, 1, "a"))
	brings(t, l, quiet(7, 3, 2), nil, false, api.OK)
	is(t, l, 3, 7, true, 64, 0)
}

func TestQuietMakesSureEvenWithAnError(t *testing.T) {
	l := greeted(t, 3, 7)
	brings(t, l, quiet(7, 3, 0), nil, false, api.ErrGap)
	is(t, l, 3, 7, true, 64, 0)
	flushes(t, l)
	x := greeted(t, 3, 7)
	brings(t, x, data(7, 3, 1, 2, "a"), nil, false, api.ErrGap)
	is(t, x, 3, 7, true, 64, 0)
	flushes(t, x, quiet(3, 7, 1))
}

func TestReceiveOfData(t *testing.T) {
	l := greeted(t, 3, 7)
	for _, x := range []struct {
		seq    uint32
		bodies []string
		code   api.Errno
		ack    uint32
	}{
		{1, []string{"1"}, api.OK, 2},
		{1, nil, api.ErrStale, 2},
		{3, nil, api.OK, 2},
		{3, nil, api.ErrStale, 2},
		{17, nil, api.OK, 2},
		{18, nil, api.ErrWindow, 2},
		{top, nil, api.ErrWindow, 2},
		{2, []string{"2", "3"}, api.OK, 4},
		{19, nil, api.OK, 4},
		{4, []string{"4"}, api.OK, 5},
		{2, nil, api.ErrStale, 5},
	} {
		brings(t, l, data(7, 3, x.seq, 1, strconv.Itoa(int(x.seq))), x.bodies, false, x.code)
		is(t, l, 3, 7, true, 64, 0)
		flushes(t, l, quiet(3, 7, x.ack)) // with an error, too
		flushes(t, l)
	}
}

func TestReceiveOfEmptyAndFullBodies(t *testing.T) {
	l := sure(t, 3, 7)
	brings(t, l, data(7, 3, 1, 1, ""), []string{""}, false, api.OK)
	brings(t, l, data(7, 3, 2, 1, fullBody), []string{fullBody}, false, api.OK)
	brings(t, l, data(7, 3, 3, 1, longBody), nil, false, api.ErrLimit)
	ticks(t, l, quiet(3, 7, 3))
}

// An Ack's error comes ahead of the number's, and with it the body is not taken.
func TestDataWithAWrongAck(t *testing.T) {
	for _, ack := range []uint32{0, 4, top} {
		for _, seq := range []uint32{1, 2, 17, top} {
			l := busy(t)
			brings(t, l, data(7, 3, seq, ack, "x"), nil, false, api.ErrGap)
			flushes(t, l, quiet(3, 7, 1))
			isStillBusy(t, l)
		}
	}
}

// What a frame says to have come is known then, even if its body came already, or is too far ahead.
func TestDataWithAWrongNumberTellsWhatCame(t *testing.T) {
	for seq, want := range map[uint32]api.Errno{2: api.ErrStale, 17: api.ErrWindow, top: api.ErrWindow} {
		l := busy(t)
		brings(t, l, data(7, 3, seq, 2, "x"), nil, false, want)
		is(t, l, 3, 7, true, 64, 1)
		flushes(t, l, quiet(3, 7, 1))
		brings(t, l, data(7, 3, 1, 1, "first"), []string{"first", "ahead"}, false, api.OK)
	}
}

// A frame that an end gets back from itself is for another start, or of the other one's: it is borne like any other one.
func TestReceiveOfOnesOwnFrames(t *testing.T) {
	l := made(t, 3)
	brings(t, l, l.Tick()[0], nil, false, api.OK)
	is(t, l, 3, 3, false, 0, 0)
	brings(t, l, l.Tick()[0], nil, false, api.OK)
	is(t, l, 3, 3, true, 64, 0)
	sends(t, l, "a")
	brings(t, l, l.Tick()[0], []string{"a"}, false, api.OK)
	brings(t, l, l.Tick()[0], nil, false, api.ErrStale)
	is(t, l, 3, 3, true, 64, 0)
}

// The examples of the chapter.

func TestThreeFramesMakeBothReady(t *testing.T) {
	a, b := made(t, 3), made(t, 7)
	for i, to := range []*link.Link{b, a, b} {
		from := a
		if to == a {
			from = b
		}
		if a.Ready() && b.Ready() {
			t.Fatalf("both are ready behind %d frames", i)
		}
		l := from.Tick()
		if len(l) != 1 {
			t.Fatalf("%d frames", len(l))
		}
		brings(t, to, l[0], nil, false, api.OK)
	}
	is(t, a, 3, 7, true, 64, 0)
	is(t, b, 7, 3, true, 64, 0)
}

// All that an end tells is a frame that frame.Decode reads, with nothing wrong.
func TestFramesAreFrames(t *testing.T) {
	a, b := sure(t, top, 1), greeted(t, 1, top)
	sends(t, a, "", "a", fullBody)
	for _, s := range slices.Concat(a.Tick(), b.Tick(), made(t, top).Tick()) {
		if _, err := frame.Decode(s); err != nil {
			t.Errorf("%.40q: %v", s, err)
		}
	}
}
