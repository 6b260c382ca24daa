package frame_test

import (
	"encoding/binary"
	"errors"
	"math"
	"math/rand"
	"strings"
	"testing"

	"trefoil/api"
	"trefoil/fault"
	"trefoil/frame"
)

// P11.2

// written are frames and their bytes, each of its bytes by hand.
func written() map[string]frame.Frame {
	return map[string]frame.Frame{
		"\x03\x00\x00\x00\x01\x00\x00\x00\x02\x00\x00\x00\x00\x00\x00\x00\x05":            {Kind: frame.Quiet, Own: 1, Peer: 2, Ack: 5},
		"\x03\x01\x02\x03\x04\x05\x06\x07\x08\x00\x00\x00\x00\x09\x0a\x0b\x0c":            {Kind: frame.Quiet, Own: 0x01020304, Peer: 0x05060708, Ack: 0x090a0b0c},
		"\x01\x00\x00\x00\x01\x00\x00\x00\x00\x00\x00\x00\x00\x00\x00\x00\x00":            {Kind: frame.Hello, Own: 1},
		"\x01\xff\xfe\xfd\xfc\x80\x00\x00\x00\x00\x00\x00\x00\x00\x00\x00\x00":            {Kind: frame.Hello, Own: 0xfffefdfc, Peer: 1 << 31},
		"\x02\x00\x00\x00\x03\x00\x00\x00\x09\x00\x00\x00\x01\x00\x00\x00\x02body":        {Kind: frame.Data, Own: 3, Peer: 9, Seq: 1, Ack: 2, Body: "body"},
		"\x02\x01\x02\x03\x04\x05\x06\x07\x08\x11\x12\x13\x14\x15\x16\x17\x18":            {Kind: frame.Data, Own: 0x01020304, Peer: 0x05060708, Seq: 0x11121314, Ack: 0x15161718},
		"\x02\x00\x00\x00\x01\x00\x00\x00\x01\x00\x00\x00\x01\x00\x00\x00\x00\x00":        {Kind: frame.Data, Own: 1, Peer: 1, Seq: 1, Body: "\x00"},
		"\x02\x00\x00\x00\x01\x00\x00\x00\x01\x00\x00\x00\x01\x00\x00\x00\x00" + fullBody: {Kind: frame.Data, Own: 1, Peer: 1, Seq: 1, Body: fullBody},
	}
}

func isFault(err error, code api.Errno) bool { return fault.Code(err) == code && errors.Is(err, code) }

func TestEncode(t *testing.T) {
	for want, f := range written() {
		if got, err := frame.Encode(f); got != want || err != nil {
			t.Errorf("Encode of %v is %.100x, %v, not %.100x", named(f), got, err, want)
		}
	}
}

func TestEncodeOfWrongFrames(t *testing.T) {
	for want, l := range wrongFrames() {
		for _, f := range l {
			if got, err := frame.Encode(f); got != "" || !isFault(err, want) {
				t.Errorf("Encode of %v is %.100x, %v, not %d", named(f), got, err, want)
			}
		}
	}
}

func TestDecode(t *testing.T) {
	for s, want := range written() {
		if got, err := frame.Decode(s); got != want || err != nil {
			t.Errorf("Decode of %.100x is %v, %v, not %v", s, named(got), err, named(want))
		}
	}
}

func decodeFails(t *testing.T, s string, want api.Errno) {
	t.Helper()
	if got, err := frame.Decode(s); got != (frame.Frame{}) || !isFault(err, want) {
		t.Errorf("Decode of %d bytes %.100x is %v, %v, not %d", len(s), s, named(got), err, want)
	}
}

// TestDecodeOfTooFewBytes has bytes whose kind is none among them: that there are too few comes first.
func TestDecodeOfTooFewBytes(t *testing.T) {
	for s := range written() {
		for n := range 17 {
			decodeFails(t, s[:n], api.ErrShort)
		}
	}
	for n := range 17 {
		decodeFails(t, strings.Repeat("\x00", n), api.ErrShort)
		decodeFails(t, strings.Repeat("\xff", n), api.ErrShort)
	}
}

// laid are the bytes of a frame, wrong or not, of its kind the low byte.
func laid(f frame.Frame) string {
	b := []byte{byte(f.Kind)}
	for _, x := range []uint32{f.Own, f.Peer, f.Seq, f.Ack} {
		b = binary.BigEndian.AppendUint32(b, x)
	}
	return string(append(b, f.Body...))
}

func TestDecodeOfWrongFrames(t *testing.T) {
	for want, l := range wrongFrames() {
		for _, f := range l {
			if f.Kind >= 0 && f.Kind < 256 {
				decodeFails(t, laid(f), want)
			}
		}
	}
}

func TestDecodeOfNoKind(t *testing.T) {
	for kind := range 256 {
		want := api.ErrKind
		if kind >= 1 && kind <= 3 {
			want = api.ErrForm
		}
		decodeFails(t, laid(frame.Frame{Kind: kind})+longBody, want)
		decodeFails(t, laid(frame.Frame{Kind: kind})+"x", want)
	}
}

// TestDecodeOfLongBodies has bodies longer than a Reader reads at once: of Data that is a limit, and of no other kind.
func TestDecodeOfLongBodies(t *testing.T) {
	for _, n := range []int{1, 2, 1 << 16, 1 << 20} {
		body := fullBody + strings.Repeat("y", n)
		decodeFails(t, laid(frame.Frame{Kind: frame.Data, Own: 1, Peer: 1, Seq: 1, Body: body}), api.ErrLimit)
		decodeFails(t, laid(frame.Frame{Kind: frame.Data, Own: 1, Seq: 1, Body: body}), api.ErrEpoch)
		decodeFails(t, laid(frame.Frame{Kind: frame.Hello, Own: 1, Body: body}), api.ErrForm)
		decodeFails(t, laid(frame.Frame{Kind: frame.Quiet, Own: 1, Peer: 1, Body: body}), api.ErrForm)
	}
}

// P11.4

func TestWhatIsEncodedIsDecoded(t *testing.T) {
	right := 0
	both := func(f frame.Frame) {
		s, err := frame.Encode(f)
		if want := firstWrong(f); want != api.OK {
			if s != "" || !isFault(err, want) {
				t.Fatalf("Encode of %v is %.100x, %v, not %d", named(f), s, err, want)
			}
			return
		}
		right++
		if err != nil || s != laid(f) {
			t.Fatalf("Encode of %v is %.100x, %v", named(f), s, err)
		}
		if got, err := frame.Decode(s); err != nil || got != f {
			t.Fatalf("%v comes back as %v, %v", named(f), named(got), err)
		}
	}
	grid(both)
	for _, f := range rightFrames() {
		both(f)
	}
	r := rand.New(rand.NewSource(1))
	for range 20000 {
		both(drawn(r))
	}
	if right < 20000 {
		t.Errorf("only %d frames were right", right)
	}
}

// drawn is a frame of a drawn kind, with nothing wrong.
func drawn(r *rand.Rand) frame.Frame {
	start := func() uint32 { return 1 + uint32(r.Int63n(math.MaxUint32)) }
	f := frame.Frame{Kind: 1 + r.Intn(3), Own: start(), Peer: start()}
	switch f.Kind {
	case frame.Hello:
		f.Peer *= uint32(r.Intn(2))
	case frame.Data:
		f.Seq, f.Ack, f.Body = start(), r.Uint32(), anyText(r, r.Intn(60))
	case frame.Quiet:
		f.Ack = r.Uint32()
	}
	return f
}

func anyText(r *rand.Rand, n int) string {
	b := make([]byte, n)
	r.Read(b)
	return string(b)
}

// spoilt is a drawn frame's bytes, changed at some places, cut off or with more behind.
func spoilt(r *rand.Rand) string {
	b := []byte(laid(drawn(r)))
	for range r.Intn(4) {
		b[r.Intn(17)] = byte(r.Intn(256) >> r.Intn(8))
	}
	if r.Intn(4) == 0 { // a number of four zeros, which chance hardly brings
		copy(b[1+4*r.Intn(4):], "\x00\x00\x00\x00")
	}
	switch r.Intn(6) {
	case 0:
		b = b[:r.Intn(len(b)+1)]
	case 1:
		b = append(b, anyText(r, 1+r.Intn(3))...)
	case 2:
		b[0] = byte(r.Intn(5))
	}
	return string(b)
}

// readSlowly reads a frame byte by byte.
func readSlowly(s string) (frame.Frame, api.Errno) {
	if len(s) < 17 {
		return frame.Frame{}, api.ErrShort
	}
	var numbers [4]uint32
	for i := range 16 {
		numbers[i/4] = numbers[i/4]*256 + uint32(s[1+i])
	}
	f := frame.Frame{Kind: int(s[0]), Own: numbers[0], Peer: numbers[1], Seq: numbers[2], Ack: numbers[3], Body: s[17:]}
	if code := firstWrong(f); code != api.OK {
		return frame.Frame{}, code
	}
	return f, api.OK
}

func TestWhatIsDecodedIsEncoded(t *testing.T) {
	r := rand.New(rand.NewSource(2))
	seen := map[api.Errno]int{}
	for range 200000 {
		s := spoilt(r)
		want, code := readSlowly(s)
		seen[code]++
		got, err := frame.Decode(s)
		if got != want || fault.Code(err) != code {
			t.Fatalf("Decode of %x is %v, %v, not %v, %d", s, named(got), err, named(want), code)
		}
		if code != api.OK {
			continue
		}
		if again, err := frame.Encode(got); err != nil || again != s {
			t.Fatalf("%x comes back as %x, %v", s, again, err)
		}
	}
	for _, code := range []api.Errno{api.OK, api.ErrShort, api.ErrKind, api.ErrForm, api.ErrEpoch} {
		if seen[code] < 1000 {
			t.Errorf("of the error %d there were only %d", code, seen[code])
		}
	}
}

// TestAllBytesTell takes a frame's bytes one by one: each of them is the frame's, so that no two frames have the same.
func TestAllBytesTell(t *testing.T) {
	s := laid(frame.Frame{Kind: frame.Data, Own: 0x01020304, Peer: 0x05060708, Seq: 0x11121314, Ack: 0x15161718, Body: "body"})
	told := map[frame.Frame]int{}
	right := 0
	for i := range s {
		for x := range 256 {
			f, err := frame.Decode(s[:i] + string([]byte{byte(x)}) + s[i+1:])
			if err == nil {
				right++
				told[f]++
			}
		}
	}
	// The frame itself is met once at each place.
	if len(told) != right-len(s)+1 || right != 1+20*256 {
		t.Errorf("%d bytes are right, and tell %d frames", right, len(told))
	}
}
