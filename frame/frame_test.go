package frame_test

import (
	"fmt"
	"math"
	"strings"
	"testing"

	"trefoil/api"
	"trefoil/frame"
)

const top = math.MaxUint32

var (
	fullBody = strings.Repeat("0123456789abcdef", 1<<12)
	longBody = fullBody + "x"
)

// named tells a frame for a failed test, with no more than a little of its body.
func named(f frame.Frame) string {
	return fmt.Sprintf("{%d, %d for %d, %d, %d, %d bytes %.20q}", f.Kind, f.Own, f.Peer, f.Seq, f.Ack, len(f.Body), f.Body)
}

// P11.1

func TestKinds(t *testing.T) {
	if frame.Hello != 1 || frame.Data != 2 || frame.Quiet != 3 {
		t.Errorf("the kinds are %d, %d, %d", frame.Hello, frame.Data, frame.Quiet)
	}
}

// rightFrames are frames with which nothing is wrong.
func rightFrames() []frame.Frame {
	return []frame.Frame{
		{Kind: frame.Hello, Own: 1},
		{Kind: frame.Hello, Own: 1, Peer: 2},
		{Kind: frame.Hello, Own: top, Peer: top},
		{Kind: frame.Data, Own: 3, Peer: 9, Seq: 1, Ack: 2, Body: "body"},
		{Kind: frame.Data, Own: 1, Peer: 1, Seq: 1},
		{Kind: frame.Data, Own: 1, Peer: 1, Seq: 1, Body: fullBody},
		{Kind: frame.Data, Own: top, Peer: top, Seq: top, Ack: top, Body: "\x00"},
		{Kind: frame.Quiet, Own: 1, Peer: 2, Ack: 5},
		{Kind: frame.Quiet, Own: 1, Peer: 1},
		{Kind: frame.Quiet, Own: top, Peer: top, Ack: top},
	}
}

// wrongFrames are frames with which something is wrong, under the error of it. Those with several things wrong hold the errors' order.
func wrongFrames() map[api.Errno][]frame.Frame {
	l := map[api.Errno][]frame.Frame{
		api.ErrForm: {
			{Kind: frame.Hello, Own: 1, Seq: 1},
			{Kind: frame.Hello, Own: 1, Ack: 1},
			{Kind: frame.Hello, Own: 1, Body: "x"},
			{Kind: frame.Hello, Own: 1, Peer: 1, Seq: top, Ack: top, Body: "x"},
			{Kind: frame.Data, Own: 1, Peer: 1},
			{Kind: frame.Data, Own: 1, Peer: 1, Ack: 1, Body: "x"},
			{Kind: frame.Quiet, Own: 1, Peer: 1, Body: "\x00"},
			{Kind: frame.Quiet, Own: 1, Peer: 1, Seq: 1},
			{Kind: frame.Quiet, Own: 1, Peer: 1, Seq: top, Ack: 1},
			// ahead of ErrEpoch
			{Kind: frame.Hello, Seq: 1},
			{Kind: frame.Hello, Ack: 1},
			{Kind: frame.Hello, Body: "x"},
			{Kind: frame.Data},
			{Kind: frame.Data, Own: 1},
			{Kind: frame.Quiet, Body: "x"},
			{Kind: frame.Quiet, Own: 1, Seq: 1, Body: "x"},
			// ahead of ErrLimit
			{Kind: frame.Hello, Own: 1, Body: longBody},
			{Kind: frame.Data, Own: 1, Peer: 1, Body: longBody},
			{Kind: frame.Quiet, Own: 1, Peer: 1, Body: longBody},
		},
		api.ErrEpoch: {
			{Kind: frame.Hello},
			{Kind: frame.Hello, Peer: 1},
			{Kind: frame.Data, Seq: 1},
			{Kind: frame.Data, Own: 1, Seq: 1},
			{Kind: frame.Data, Peer: 1, Seq: 1, Ack: 1, Body: "x"},
			{Kind: frame.Quiet},
			{Kind: frame.Quiet, Own: 1},
			{Kind: frame.Quiet, Peer: 1, Ack: 1},
			// ahead of a Quiet's Seq
			{Kind: frame.Quiet, Seq: 1},
			{Kind: frame.Quiet, Own: 1, Seq: 1},
			{Kind: frame.Quiet, Peer: 1, Seq: 1},
			// ahead of ErrLimit
			{Kind: frame.Data, Own: 1, Seq: 1, Body: longBody},
			{Kind: frame.Data, Peer: 1, Seq: 1, Body: longBody},
		},
		api.ErrLimit: {
			{Kind: frame.Data, Own: 1, Peer: 1, Seq: 1, Body: longBody},
			{Kind: frame.Data, Own: 1, Peer: 1, Seq: 1, Body: longBody + fullBody},
		},
	}
	for _, kind := range noKinds() {
		l[api.ErrKind] = append(l[api.ErrKind],
			frame.Frame{Kind: kind, Own: 1, Peer: 1},
			frame.Frame{Kind: kind, Own: 1, Peer: 1, Seq: 1},
			frame.Frame{Kind: kind},
			frame.Frame{Kind: kind, Seq: 1, Ack: 1, Body: longBody})
	}
	return l
}

// noKinds are numbers that are no kind, those among them whose low byte is one.
func noKinds() []int {
	l := []int{math.MinInt, math.MinInt + 1, math.MinInt + 2, math.MinInt32, math.MaxInt32, 1 << 32, 1<<32 + 1, 1<<32 + 2, math.MaxInt - 1, math.MaxInt}
	for kind := -600; kind < 600; kind++ {
		if kind < 1 || kind > 3 {
			l = append(l, kind)
		}
	}
	return l
}

func TestCheckOfRightFrames(t *testing.T) {
	for _, f := range rightFrames() {
		if got := frame.Check(f); got != api.OK {
			t.Errorf("Check of %s is %d", named(f), got)
		}
	}
}

func TestCheckOfWrongFrames(t *testing.T) {
	for want, l := range wrongFrames() {
		for _, f := range l {
			if got := frame.Check(f); got != want {
				t.Errorf("Check of %s is %d, not %d", named(f), got, want)
			}
		}
	}
}

// firstWrong goes through what may be wrong with a frame, in the chapter's order and words.
func firstWrong(f frame.Frame) api.Errno {
	hello, data, quiet := f.Kind == 1, f.Kind == 2, f.Kind == 3
	for _, x := range []struct {
		code  api.Errno
		wrong bool
	}{
		{15, !hello && !data && !quiet},
		{13, hello && (f.Seq != 0 || f.Ack != 0)},
		{13, (hello || quiet) && len(f.Body) > 0},
		{13, data && f.Seq == 0},
		{20, f.Own == 0},
		{20, !hello && f.Peer == 0},
		{13, quiet && f.Seq != 0},
		{2, len(f.Body) > 65536},
	} {
		if x.wrong {
			return x.code
		}
	}
	return 0
}

// grid goes through frames with the edges of all fields, each with each.
func grid(tell func(f frame.Frame)) {
	numbers := []uint32{0, 1, 2, 255, 256, 1 << 31, top}
	for _, kind := range []int{math.MinInt, -1, 0, 1, 2, 3, 4, 255, 256, 257, 258, 259, math.MaxInt} {
		for _, own := range numbers {
			for _, peer := range numbers {
				for _, seq := range numbers {
					for _, ack := range numbers {
						for _, body := range []string{"", "x", "\x00\xff", fullBody, longBody} {
							tell(frame.Frame{Kind: kind, Own: own, Peer: peer, Seq: seq, Ack: ack, Body: body})
						}
					}
				}
			}
		}
	}
}

func TestCheckOfAllEdges(t *testing.T) {
	seen := map[api.Errno]int{}
	grid(func(f frame.Frame) {
		want := firstWrong(f)
		seen[want]++
		if got := frame.Check(f); got != want {
			t.Fatalf("Check of %s is %d, not %d", named(f), got, want)
		}
	})
	if len(seen) != 5 {
		t.Errorf("there were only %v", seen)
	}
}

// P11.3

func TestFor(t *testing.T) {
	for _, x := range []struct {
		kind           int
		ofOwn, forPeer uint32
		own, peer      uint32
		want           api.Errno
		edge           string
	}{
		{frame.Data, 3, 9, 9, 3, api.OK, "both starts"},
		{frame.Data, 3, 9, 9, 2, api.OK, "a newer start than is known"},
		{frame.Data, 3, 9, 9, 0, api.OK, "no start is known"},
		{frame.Data, 3, 9, 9, 4, api.ErrStale, "of a start that is past"},
		{frame.Data, 3, 9, 8, 3, api.ErrStale, "for a later start"},
		{frame.Data, 3, 9, 10, 3, api.ErrStale, "for an earlier start"},
		{frame.Data, 3, 9, 10, 4, api.ErrStale, "both"},
		{frame.Data, 3, 0, 9, 3, api.ErrStale, "for none that it knows"},
		{frame.Data, 3, 9, 3, 9, api.ErrStale, "turned about"},
		{frame.Quiet, 3, 9, 9, 3, api.OK, "both starts"},
		{frame.Quiet, 3, 9, 9, 4, api.ErrStale, "of a start that is past"},
		{frame.Quiet, 3, 9, 8, 3, api.ErrStale, "for a later start"},
		{frame.Quiet, 3, 9, 10, 3, api.ErrStale, "for an earlier start"},
		{frame.Hello, 3, 9, 9, 3, api.OK, "both starts"},
		{frame.Hello, 3, 9, 8, 3, api.OK, "for a later start"},
		{frame.Hello, 3, 9, 10, 3, api.OK, "for an earlier start"},
		{frame.Hello, 3, 0, 9, 3, api.OK, "for none that it knows"},
		{frame.Hello, 3, 9, 9, 4, api.ErrStale, "of a start that is past"},
		{frame.Hello, 3, 0, 9, top, api.ErrStale, "of a start that is long past"},
		{frame.Hello, top, 0, 9, top, api.OK, "of the last start"},
		{frame.Hello, 1 << 31, 0, 9, 1, api.OK, "far above what is known"},
		{frame.Hello, top, 0, 9, 1, api.OK, "farther above what is known"},
		{frame.Data, top, top, top, top, api.OK, "the last starts"},
		{frame.Data, top - 1, top, top, top, api.ErrStale, "of the last start but one"},
		{frame.Data, 0, 0, 0, 0, api.OK, "no starts at all"},
	} {
		f := frame.Frame{Kind: x.kind, Own: x.ofOwn, Peer: x.forPeer, Seq: 1, Ack: 2, Body: "body"}
		if got := frame.For(f, x.own, x.peer); got != x.want {
			t.Errorf("For of a frame of the kind %d, %d for %d, with %d, %d (%s) is %d, not %d", x.kind, x.ofOwn, x.forPeer, x.own, x.peer, x.edge, got, x.want)
		}
	}
}

// TestForAsksForStartsAlone takes frames with which Check would find something wrong: For has no errors of that.
func TestForAsksForStartsAlone(t *testing.T) {
	few := []uint32{0, 1, 2, top - 1, top}
	for _, kind := range []int{math.MinInt, -1, 0, 1, 2, 3, 4, 257, math.MaxInt} {
		for _, ofOwn := range few {
			for _, forPeer := range few {
				for _, own := range few {
					for _, peer := range few {
						want := api.OK
						if ofOwn < peer || kind != 1 && forPeer != own {
							want = api.ErrStale
						}
						for _, rest := range []frame.Frame{{}, {Seq: top, Ack: top, Body: longBody}} {
							f := frame.Frame{Kind: kind, Own: ofOwn, Peer: forPeer, Seq: rest.Seq, Ack: rest.Ack, Body: rest.Body}
							if got := frame.For(f, own, peer); got != want {
								t.Fatalf("For of %s with %d, %d is %d, not %d", named(f), own, peer, got, want)
							}
						}
					}
				}
			}
		}
	}
}
