package msg_test

import (
	"errors"
	"math"
	"reflect"
	"slices"
	"strings"
	"testing"

	"trefoil/api"
	"trefoil/fault"
	"trefoil/msg"
)

// P10.3

// written are messages and their bytes, each of its bytes by hand.
func written() map[string]msg.Msg {
	digest, seed := api.Digest{}, api.Seed{}
	digestText, seedText := "", ""
	for i := range 32 {
		digest[i], seed[i] = byte(i+1), byte(200+i)
		digestText += string([]byte{byte(i + 1)})
		seedText += string([]byte{byte(200 + i)})
	}
	data := strings.Repeat("0123456789abcdef", 16)
	return map[string]msg.Msg{
		"\x01\x01\x02\x03\x04\x01\x0c\x00\x00\x00\x00\x00\x00\x18\x00\x00\x00\x05": {Kind: msg.Start, Batch: 0x01020304, Class: scalar(12), Count: 24, Opened: 5},
		"\x01\xff\xff\xff\xff\x02\x40\x06\x06\x06\x00\x00\x00\x01\x00\x00\x00\x01": {Kind: msg.Start, Batch: math.MaxUint32, Class: wide, Count: 1, Opened: 1},
		"\x01\x00\x00\x00\x00\x03\x01\x00\x00\x00\x00\x00\x00\x01\x00\x00\x00\x00": {Kind: msg.Start, Class: bit, Count: 1},

		"\x02\x01\x02\x03\x04\x05\x06\x07\x08\x11\x12\x13\x14\x15\x16\x17\x18\x00\x00\x00\x09" + data:                     {Kind: msg.Cols, Batch: 0x01020304, Chunk: 0x05060708, From: 0x1112131415161718, Count: 9, Data: data},
		"\x02\x00\x00\x00\x00\x00\x00\x00\x00\x00\x00\x00\x00\x00\x00\x00\x00\x00\x00\x00\x01" + data[:128]:               {Kind: msg.Cols, Count: 1, Data: data[:128]},
		"\x02\x00\x00\x00\x00\x00\x00\x00\x00\x00\x00\x00\x00\x00\x00\x00\x00\x00\x00\x02\x00" + strings.Repeat(data, 32): {Kind: msg.Cols, Count: 512, Data: strings.Repeat(data, 32)},

		"\x03\x01\x02\x03\x04\x05\x06\x07\x08\x0c\x00\x00\x00\x02\x00\x01\x0f\xff":                 {Kind: msg.Corr, Batch: 0x01020304, Chunk: 0x05060708, Width: 12, Words: []uint64{1, 4095}},
		"\x03\x00\x00\x00\x00\x00\x00\x00\x00\x01\x00\x00\x00\x03\x01\x00\x01":                     {Kind: msg.Corr, Width: 1, Words: []uint64{1, 0, 1}},
		"\x03\x00\x00\x00\x00\x00\x00\x00\x00\x40\x00\x00\x00\x01\x01\x02\x03\x04\x05\x06\x07\x08": {Kind: msg.Corr, Width: 64, Words: []uint64{0x0102030405060708}},
		"\x03\x00\x00\x00\x00\x00\x00\x00\x00\x08\x00\x00\x00\x00":                                 {Kind: msg.Corr, Width: 8},
		"\x03\x00\x00\x00\x00\x00\x00\x00\x00\x08\x00\x00\x0c\x00" + strings.Repeat("\xfe", 3072):  {Kind: msg.Corr, Width: 8, Words: slices.Repeat([]uint64{254}, 3072)},

		"\x04\x01\x02\x03\x04" + digestText: {Kind: msg.Commit, Batch: 0x01020304, Digest: digest},
		"\x05\x01\x02\x03\x04" + seedText:   {Kind: msg.Reveal, Batch: 0x01020304, Seed: seed},

		"\x06\x01\x02\x03\x04\x01\x0c\x00\x00\x00\x00\x00\x00\x02" +
			"\x00\x00\x00\x01\x00\x01\x00\x00\x00\x01\x01\x02\x00\x00\x00\x01\x0f\xff" +
			"\x00\x00\x00\x01\x00\x04\x00\x00\x00\x01\x00\x05\x00\x00\x00\x01\x00\x06": {Kind: msg.Open, Batch: 0x01020304, Class: scalar(12), Shares: []api.Share{
			{A: []uint64{1}, B: []uint64{258}, C: []uint64{4095}}, {A: []uint64{4}, B: []uint64{5}, C: []uint64{6}}}},
		"\x06\x00\x00\x00\x00\x04\x10\x00\x00\x00\x00\x00\x00\x01\x00\x00\x00\x01\x01\x00\x00\x00\x01\x01\x02\x00\x00\x00\x00": {Kind: msg.Open, Class: daBit(16), Shares: []api.Share{{A: []uint64{1}, B: []uint64{258}}}},
		"\x06\x00\x00\x00\x00\x02\x08\x01\x02\x03\x00\x00\x00\x01" +
			"\x00\x00\x00\x02\x01\x02\x00\x00\x00\x06\x03\x04\x05\x06\x07\x08\x00\x00\x00\x03\x09\x0a\x0b": {Kind: msg.Open, Class: api.Class{Kind: api.Matrix, Bits: 8, M: 1, K: 2, N: 3}, Shares: []api.Share{
			{A: []uint64{1, 2}, B: []uint64{3, 4, 5, 6, 7, 8}, C: []uint64{9, 10, 11}}}},
		"\x06\x00\x00\x00\x00\x03\x01\x00\x00\x00\x00\x00\x00\x00": {Kind: msg.Open, Class: bit},

		"\x07\x01\x02\x03\x04\x20":                                                 {Kind: msg.Verdict, Batch: 0x01020304, Code: 32},
		"\x08\x02\x09\x02\x03\x04\x01\x02\x03\x04":                                 {Kind: msg.Mark, Class: oblong, Count: 0x01020304},
		"\x08\x04\x40\x00\x00\x00\x00\x00\x00\x00":                                 {Kind: msg.Mark, Class: daBit(64)},
		"\x09\x01\x02\x03\x04\x01\x40\x00\x00\x00\x00\x00\x00\x40\x05\x06\x07\x08": {Kind: msg.Want, Ticket: 0x01020304, Class: scalar(64), Count: 64, First: 0x05060708},
		"\x0a\x01\x02\x03\x04\x01\x40\x00\x00\x00\x00\x00\x00\x40\x05\x06\x07\x08": {Kind: msg.Grant, Ticket: 0x01020304, Class: scalar(64), Count: 64, First: 0x05060708},
		"\x0b\x01\x02\x03\x04\x28":                                                 {Kind: msg.Deny, Ticket: 0x01020304, Code: 40},
		"\x0c\x00\x00\x00\x07":                                                     {Kind: msg.Ack, Ticket: 7},
		"\x0c\xff\xfe\xfd\xfc":                                                     {Kind: msg.Ack, Ticket: 0xfffefdfc},
		"\x0d\x00":                                                                 {Kind: msg.Abort},
		"\x0d\xff":                                                                 {Kind: msg.Abort, Code: 255},
	}
}

func TestEncode(t *testing.T) {
	kinds := map[int]bool{}
	for want, m := range written() {
		kinds[m.Kind] = true
		for _, m := range []msg.Msg{m, cluttered(m)} {
			if got, err := msg.Encode(m); got != want || err != nil {
				t.Errorf("Encode of %s is %.100x, %v, not %.100x", msg.Name(m.Kind), got, err, want)
			}
		}
	}
	if len(kinds) != 13 {
		t.Errorf("there are only the kinds %v", kinds)
	}
}

func isFault(err error, code api.Errno) bool { return fault.Code(err) == code && errors.Is(err, code) }

func TestEncodeOfWrongMessages(t *testing.T) {
	wrongs := map[api.Errno][]msg.Msg{
		api.ErrArg: {
			{Kind: msg.Start, Class: bit}, {Kind: msg.Start, Class: bit, Count: 25}, {Kind: msg.Start, Class: bit, Count: 3, Opened: 4},
			{Kind: msg.Want, Class: bit}, {Kind: msg.Want, Class: bit, Count: 65}, {Kind: msg.Grant, Class: bit}, {Kind: msg.Grant, Class: bit, Count: 65},
		},
		api.ErrLimit: {
			{Kind: msg.Cols}, {Kind: msg.Cols, Count: 513, Data: strings.Repeat("x", 65*128)}, {Kind: msg.Corr, Width: 1, Words: make([]uint64, 3073)},
			{Kind: msg.Open, Class: bit, Shares: slices.Repeat([]api.Share{filled(bit, 0)}, 25)},
		},
		api.ErrShape: {
			{Kind: msg.Start, Class: scalar(65), Count: 1}, {Kind: msg.Cols, Count: 8}, {Kind: msg.Cols, Count: 8, Data: strings.Repeat("x", 129)},
			{Kind: msg.Corr}, {Kind: msg.Corr, Width: 65}, {Kind: msg.Open, Class: bit, Shares: make([]api.Share, 1)}, {Kind: msg.Open, Class: scalar(0)},
			{Kind: msg.Mark, Class: daBit(0)}, {Kind: msg.Want, Class: scalar(256 + 8), Count: 1}, {Kind: msg.Grant, Class: daBit(-1), Count: 1},
		},
		api.ErrForm: {{Kind: msg.Corr, Width: 63, Words: []uint64{1 << 63}}, {Kind: msg.Corr, Width: 3, Words: []uint64{7, 8}}},
		api.ErrKind: {{}, {Kind: 14}, {Kind: -1}, {Kind: 256 + msg.Ack}, {Kind: msg.Start, Count: 1}, {Kind: msg.Open}, {Kind: msg.Mark}, {Kind: msg.Want}, {Kind: msg.Grant}},
	}
	for _, kind := range noKinds() {
		wrongs[api.ErrKind] = append(wrongs[api.ErrKind], msg.Msg{Kind: kind, Class: bit, Count: 1})
	}
	for code, l := range wrongs {
		for _, m := range l {
			if got, err := msg.Encode(m); got != "" || !isFault(err, code) || msg.Check(m) != code {
				t.Errorf("Encode of %s %.200v is %.100x, %v, not %d", msg.Name(m.Kind), m, got, err, code)
			}
		}
	}
}

func TestEncodeChangesNothing(t *testing.T) {
	room := []uint64{1, 2, 3, 4, 5, 6}
	shares := []api.Share{{A: room[:1], B: room[1:2], C: room[2:3]}, {A: room[3:4]}, {C: room[4:]}}
	m := msg.Msg{Kind: msg.Open, Class: scalar(8), Shares: shares[:1]}
	msg.Encode(m)
	msg.Encode(msg.Msg{Kind: msg.Corr, Width: 8, Words: room[:4]})
	msg.Encode(msg.Msg{Kind: msg.Open, Class: scalar(8), Shares: shares[:2]})
	want := []api.Share{{A: []uint64{1}, B: []uint64{2}, C: []uint64{3}}, {A: []uint64{4}}, {C: []uint64{5, 6}}}
	if !slices.Equal(room, []uint64{1, 2, 3, 4, 5, 6}) || !reflect.DeepEqual(shares, want) || !reflect.DeepEqual(m.Shares, want[:1]) {
		t.Errorf("there are %v, %v", room, shares)
	}
}

// P10.4

// tidy is a message with nil where a list is empty: both are alike.
func tidy(m msg.Msg) msg.Msg {
	list := func(l []uint64) []uint64 {
		if len(l) == 0 {
			return nil
		}
		return l
	}
	m.Words = list(m.Words)
	var shares []api.Share
	for _, s := range m.Shares {
		shares = append(shares, api.Share{A: list(s.A), B: list(s.B), C: list(s.C)})
	}
	m.Shares = shares
	return m
}

func same(a, b msg.Msg) bool { return reflect.DeepEqual(tidy(a), tidy(b)) }

func TestDecode(t *testing.T) {
	for s, want := range written() {
		if got, err := msg.Decode(s); !same(got, want) || err != nil {
			t.Errorf("Decode of %.100x is %.200v, %v, not %.200v", s, got, err, want)
		}
	}
}

func decodes(t *testing.T, s string, code api.Errno) {
	t.Helper()
	got, err := msg.Decode(s)
	if !reflect.DeepEqual(got, msg.Msg{}) || !isFault(err, code) {
		t.Errorf("Decode of %.100x is %.200v, %v, not %d", s, got, err, code)
	}
}

func TestDecodeTooShortOrLong(t *testing.T) {
	for s := range written() {
		for n := range len(s) {
			if n < 100 || n > len(s)-100 {
				decodes(t, s[:n], api.ErrShort)
			}
		}
		for _, more := range []string{"\x00", "x", s, strings.Repeat("\x00", 1<<17)} {
			decodes(t, s+more, api.ErrTail)
		}
	}
}

func TestDecodeOfNoKind(t *testing.T) {
	decodes(t, "", api.ErrShort)
	for kind := range 256 {
		if kind >= 1 && kind <= 13 {
			continue
		}
		for _, more := range []string{"", "\x00", "\x00\x00\x00\x07", strings.Repeat("\xff", 100)} {
			decodes(t, string([]byte{byte(kind)})+more, api.ErrKind)
		}
	}
}

const zeros = "\x00\x00\x00\x00"

func TestDecodeOfWrongClasses(t *testing.T) {
	for c, code := range map[string]api.Errno{
		"\x00\x08\x00\x00\x00": api.ErrKind, "\x05\x08\x00\x00\x00": api.ErrKind, "\xff\xff\xff\xff\xff": api.ErrKind,
		"\x01\x00\x00\x00\x00": api.ErrShape, "\x01\x41\x00\x00\x00": api.ErrShape, "\x01\x08\x00\x00\x01": api.ErrShape,
		"\x02\x08\x01\x07\x01": api.ErrShape, "\x03\x02\x00\x00\x00": api.ErrShape, "\x04\x08\x01\x01\x01": api.ErrShape,
	} {
		for _, head := range []string{"\x01" + zeros, "\x06" + zeros, "\x08", "\x09" + zeros, "\x0a" + zeros} {
			for n := range 5 {
				decodes(t, head+c[:n], api.ErrShort)
			}
			for _, more := range []string{"", "\x00", zeros, "\x00\x00\x00\x01" + zeros, strings.Repeat("\xff", 100)} {
				decodes(t, head+c+more, code) // ahead of what is missing, wrong or too much behind it
			}
		}
	}
}

func TestDecodeOfWrongCounts(t *testing.T) {
	scalars := "\x01\x08\x00\x00\x00"
	for text, code := range map[string]api.Errno{
		"\x00\x00\x00\x00" + zeros:             api.ErrArg,
		"\x00\x00\x00\x19" + zeros:             api.ErrArg,
		"\xff\xff\xff\xff" + zeros:             api.ErrArg,
		"\x00\x00\x00\x18\x00\x00\x00\x19":     api.ErrArg,
		"\x00\x00\x00\x01\xff\xff\xff\xff":     api.ErrArg,
		"\x00\x00\x00\x00\x00\x00\x00\x01":     api.ErrArg,
		"\x00\x00\x00\x00" + zeros + "x":       api.ErrTail, // ahead of Check's error
		"\x00\x00\x00\x01\xff\xff\xff\xff\x00": api.ErrTail,
		"\x00\x00\x00\x00\x00\x00\x00":         api.ErrShort,
		"\xff\xff\xff\xff":                     api.ErrShort,
	} {
		decodes(t, "\x01"+zeros+scalars+text, code)
	}
	for text, code := range map[string]api.Errno{
		"\x00\x00\x00\x00" + zeros:         api.ErrArg,
		"\x00\x00\x00\x41" + zeros:         api.ErrArg,
		"\x00\x01\x00\x01" + zeros:         api.ErrArg,
		"\xff\xff\xff\xff\xff\xff\xff\xff": api.ErrArg,
		"\x00\x00\x00\x00" + zeros + "x":   api.ErrTail,
		"\x00\x00\x00\x41\x00":             api.ErrShort,
	} {
		decodes(t, "\x09"+zeros+scalars+text, code)
		decodes(t, "\x0a"+zeros+scalars+text, code)
	}
}

func TestDecodeOfWrongCols(t *testing.T) {
	head, data := "\x02"+strings.Repeat(zeros, 4), strings.Repeat("x", 9000)
	for _, count := range []string{"\x00\x00\x02\x01", "\x00\x01\x00\x00", "\x00\x01\x00\x01", "\x80\x00\x00\x01", "\xff\xff\xff\xff"} {
		decodes(t, head+count, api.ErrLimit) // ahead of Data
		decodes(t, head+count+data[:128], api.ErrLimit)
		decodes(t, head+count+data[:65*128], api.ErrLimit)
		decodes(t, head+count+data, api.ErrLimit)
	}
	decodes(t, head+zeros, api.ErrLimit)
	decodes(t, head+zeros+"x", api.ErrTail)
	decodes(t, head+zeros+data[:128], api.ErrTail)
	for count, size := range map[string]int{"\x00\x00\x00\x01": 128, "\x00\x00\x00\x08": 128, "\x00\x00\x00\x09": 256, "\x00\x00\x01\xff": 8192, "\x00\x00\x02\x00": 8192} {
		decodes(t, head+count, api.ErrShort)
		decodes(t, head+count+data[:size-1], api.ErrShort)
		decodes(t, head+count+data[:size+1], api.ErrTail)
		if m, err := msg.Decode(head + count + data[:size]); len(m.Data) != size || err != nil {
			t.Errorf("with %d bytes: %d, %v", size, len(m.Data), err)
		}
	}
}

func TestDecodeOfWrongCorr(t *testing.T) {
	head := "\x03" + zeros + zeros
	for width := range 256 {
		text := head + string([]byte{byte(width)})
		if width < 1 || width > 64 {
			for _, more := range []string{"", "\x00", zeros, zeros + "x", "\x00\x00\x00\x01\xff", "\xff\xff\xff\xff"} {
				decodes(t, text+more, api.ErrShape)
			}
			continue
		}
		size := (width + 7) / 8
		decodes(t, text, api.ErrShort)
		decodes(t, text+"\x00\x00\x0c\x01", api.ErrLimit)
		decodes(t, text+"\x00\x00\x0c\x01"+strings.Repeat("\x00", 3073*size), api.ErrLimit)
		decodes(t, text+"\xff\xff\xff\xff", api.ErrLimit)
		decodes(t, text+"\x00\x00\x0c\x00", api.ErrShort)
		if m, err := msg.Decode(text + "\x00\x00\x0c\x00" + strings.Repeat("\x00", 3072*size)); len(m.Words) != 3072 || err != nil {
			t.Errorf("of width %d: %d words, %v", width, len(m.Words), err)
		}
		if width%8 != 0 {
			high := string([]byte{1 << (width % 8)})
			decodes(t, text+"\x00\x00\x00\x01"+high+strings.Repeat("\x00", size-1), api.ErrForm)
			decodes(t, text+"\x00\x00\x00\x01"+high+strings.Repeat("\x00", size-1)+"x", api.ErrForm)
			decodes(t, text+"\x00\x00\x00\x02"+strings.Repeat("\x00", size)+"\x80"+strings.Repeat("\x00", size-1), api.ErrForm)
		}
	}
}

func TestDecodeOfWrongOpen(t *testing.T) {
	head := "\x06" + zeros + "\x01\x04\x00\x00\x00"
	one := "\x00\x00\x00\x01\x0f"
	share := one + one + one
	for _, count := range []string{"\x00\x00\x00\x19", "\x00\x01\x00\x01", "\x80\x00\x00\x00", "\xff\xff\xff\xff"} {
		decodes(t, head+count, api.ErrLimit)
		decodes(t, head+count+strings.Repeat(share, 25), api.ErrLimit)
		decodes(t, head+count+"x", api.ErrLimit)
	}
	if m, err := msg.Decode(head + "\x00\x00\x00\x18" + strings.Repeat(share, 24)); len(m.Shares) != 24 || err != nil {
		t.Errorf("there are %d shares, %v", len(m.Shares), err)
	}
	decodes(t, head+"\x00\x00\x00\x18"+strings.Repeat(share, 23), api.ErrShort)
	decodes(t, head+"\x00\x00\x00\x17"+strings.Repeat(share, 24), api.ErrTail)
	for _, at := range []int{0, 1, 2, 3, 4, 5} { // each part of two shares
		with := func(part string) string {
			return head + "\x00\x00\x00\x02" + strings.Repeat(one, at) + part + strings.Repeat(one, 5-at)
		}
		decodes(t, with("\x00\x00\x00\x25"+strings.Repeat("\x00", 37)), api.ErrLimit)
		decodes(t, with("\xff\xff\xff\xff"), api.ErrLimit)
		decodes(t, with("\x00\x00\x00\x24"+strings.Repeat("\x00", 36)), api.ErrShape)
		decodes(t, with(zeros), api.ErrShape)
		decodes(t, with(zeros)+"x", api.ErrTail)
		decodes(t, with("\x00\x00\x00\x02\x01\x02"), api.ErrShape)
		decodes(t, with("\x00\x00\x00\x01\x10"), api.ErrForm)
		decodes(t, with("\x00\x00\x00\x01\x80")+"x", api.ErrForm)
	}
	decodes(t, head+"\x00\x00\x00\x01\x00\x00\x00\x24", api.ErrShort)
	daBits := "\x06" + zeros + "\x04\x10\x00\x00\x00\x00\x00\x00\x01"
	decodes(t, daBits+"\x00\x00\x00\x01\x02\x00\x00\x00\x01\x00\x00"+zeros, api.ErrForm)
	decodes(t, daBits+"\x00\x00\x00\x01\x01\x00\x00\x00\x01\x00\x00\x00\x00\x00\x01\x00\x00", api.ErrShape)
	decodes(t, daBits+"\x00\x00\x00\x01\x01\x00\x00\x00\x01\x00\x00", api.ErrShort)
}

func TestDecodesAreNewMemory(t *testing.T) {
	s, err := msg.Encode(msg.Msg{Kind: msg.Open, Class: oblong, Shares: []api.Share{filled(oblong, 5), filled(oblong, 5)}})
	if err != nil {
		t.Fatal(err)
	}
	a, _ := msg.Decode(s)
	b, _ := msg.Decode(s)
	for _, share := range a.Shares {
		for _, part := range [][]uint64{share.A, share.B, share.C} {
			for i, x := range part {
				if x != 5 {
					t.Fatalf("a number is %d: two parts share memory", x)
				}
				part[i] = 9
			}
			clear(part[len(part):cap(part)])
		}
	}
	if !reflect.DeepEqual(b.Shares, []api.Share{filled(oblong, 5), filled(oblong, 5)}) {
		t.Errorf("another answer has changed: %v", b.Shares)
	}
}
