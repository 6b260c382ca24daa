package link

import (
	"testing"

	"trefoil/frame"
	"trefoil/window"
)

// What went out waits no more, and behind a new start nothing is kept: no call from outside tells whether memory still has it.

func TestWhatIsGoneIsKeptNoMore(t *testing.T) {
	l, err := New(3)
	if err != nil {
		t.Fatal(err)
	}
	come := func(f frame.Frame) {
		t.Helper()
		if _, err := l.Receive(written(f)); err != nil {
			t.Fatal(err)
		}
	}
	come(frame.Frame{Kind: frame.Hello, Own: 7, Peer: 3})
	for round := range uint32(100) {
		for range 16 {
			if err := l.Send("body"); err != nil {
				t.Fatal(err)
			}
		}
		line := l.line[:cap(l.line)]
		l.Flush()
		come(frame.Frame{Kind: frame.Quiet, Own: 7, Peer: 3, Ack: 16*round + 17})
		for _, body := range line {
			if body != "" {
				t.Fatalf("%q is kept where nothing waits", body)
			}
		}
		if cap(l.line) > 2*Queue {
			t.Fatalf("there is room for %d, where %d may wait", cap(l.line), Queue)
		}
	}
	for range 40 {
		if err := l.Send("body"); err != nil {
			t.Fatal(err)
		}
	}
	come(frame.Frame{Kind: frame.Hello, Own: 8})
	if l.line != nil || l.out.Next() != 1 || len(l.out.Pending()) != 0 || l.in.Awaited() != 1 {
		t.Error("something of an earlier start is kept")
	}
}

// Where numbers run out, all that waits goes on waiting.
func TestNumbersThatRunOut(t *testing.T) {
	l, err := New(3)
	if err != nil {
		t.Fatal(err)
	}
	l.peer, l.sure = 7, true
	l.out = *window.From(1<<32 - 4)
	for range 5 {
		if err := l.Send("body"); err != nil {
			t.Fatal(err)
		}
	}
	if got := len(l.Flush()); got != 2 {
		t.Errorf("%d frames, where two numbers are left", got)
	}
	if l.Waiting() != 5 || l.Room() != Queue-3 {
		t.Errorf("%d wait, and there is room for %d", l.Waiting(), l.Room())
	}
}
