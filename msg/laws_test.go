package msg_test

import (
	"encoding/binary"
	"math"
	"math/rand"
	"reflect"
	"slices"
	"testing"

	"trefoil/api"
	"trefoil/fault"
	"trefoil/msg"
	"trefoil/shape"
)

// P10.5

// plan is what the length of a message hangs on.
type plan struct {
	kind  int
	class api.Class
	width int
	many  int // transfers of Cols, Words of Corr, Shares of Open
}

func anyClass(r *rand.Rand) api.Class {
	side := func() int { return 1 + r.Intn(6) }
	switch bits := 1 + r.Intn(64); r.Intn(4) {
	case 0:
		return scalar(bits)
	case 1:
		return bit
	case 2:
		return daBit(bits)
	default:
		return api.Class{Kind: api.Matrix, Bits: bits, M: side(), K: side(), N: side()}
	}
}

func anyPlan(r *rand.Rand) plan {
	p := plan{kind: 1 + r.Intn(13), class: anyClass(r), width: 1 + r.Intn(64)}
	switch p.kind {
	case msg.Cols:
		p.many = 1 + r.Intn(40)
		if r.Intn(20) == 0 {
			p.many = 505 + r.Intn(8)
		}
	case msg.Corr:
		p.many = r.Intn(20)
		if r.Intn(20) == 0 {
			p.many = 3065 + r.Intn(8)
		}
	case msg.Open:
		p.many = r.Intn(4)
		if r.Intn(20) == 0 {
			p.many = 20 + r.Intn(5)
		}
	}
	return p
}

func anyText(r *rand.Rand, n int) string {
	b := make([]byte, n)
	r.Read(b)
	return string(b)
}

func anyWords(r *rand.Rand, n, width int) []uint64 {
	l := make([]uint64, n)
	for i := range l {
		l[i] = r.Uint64() >> (64 - width)
	}
	return l
}

func anyShares(r *rand.Rand, c api.Class, n int) []api.Share {
	l := make([]api.Share, n)
	sizeA, sizeB, sizeC := shape.Sizes(c)
	widthA, widthB, widthC := shape.Widths(c)
	for i := range l {
		l[i] = api.Share{A: anyWords(r, sizeA, widthA), B: anyWords(r, sizeB, widthB), C: anyWords(r, sizeC, widthC)}
	}
	return l
}

// drawn is a message of a plan, with nothing in what its kind has not.
func (p plan) drawn(r *rand.Rand) msg.Msg {
	m := msg.Msg{Kind: p.kind}
	batch, ticket, code := r.Uint32(), r.Uint32(), uint8(r.Intn(256))
	switch p.kind {
	case msg.Start:
		m.Batch, m.Class, m.Count = batch, p.class, 1+r.Uint32()%24
		m.Opened = r.Uint32() % (m.Count + 1)
	case msg.Cols:
		m.Batch, m.Chunk, m.From, m.Count = batch, r.Uint32(), r.Uint64(), uint32(p.many)
		m.Data = anyText(r, (p.many+7)/8*128)
	case msg.Corr:
		m.Batch, m.Chunk, m.Width, m.Words = batch, r.Uint32(), uint8(p.width), anyWords(r, p.many, p.width)
	case msg.Commit:
		m.Batch = batch
		r.Read(m.Digest[:])
	case msg.Reveal:
		m.Batch = batch
		r.Read(m.Seed[:])
	case msg.Open:
		m.Batch, m.Class, m.Shares = batch, p.class, anyShares(r, p.class, p.many)
	case msg.Verdict:
		m.Batch, m.Code = batch, code
	case msg.Mark:
		m.Class, m.Count = p.class, r.Uint32()
	case msg.Want, msg.Grant:
		m.Ticket, m.Class, m.Count, m.First = ticket, p.class, 1+r.Uint32()%64, r.Uint32()
	case msg.Deny:
		m.Ticket, m.Code = ticket, code
	case msg.Ack:
		m.Ticket = ticket
	case msg.Abort:
		m.Code = code
	}
	return m
}

func TestWhatIsEncodedIsDecoded(t *testing.T) {
	r := rand.New(rand.NewSource(1))
	for range 20000 {
		want := anyPlan(r).drawn(r)
		for _, m := range []msg.Msg{want, cluttered(want)} {
			s, err := msg.Encode(m)
			if err != nil {
				t.Fatalf("Encode of %.300v: %v", m, err)
			}
			if got, err := msg.Decode(s); err != nil || !same(got, want) {
				t.Fatalf("%.300v comes back as %.300v, %v", want, got, err)
			}
		}
	}
}

// size is how long a message of a plan is, part by part.
func (p plan) size() int {
	width := func(bits int) int { return (bits + 7) / 8 }
	switch p.kind {
	case msg.Cols:
		return 21 + 128*((p.many+7)/8)
	case msg.Corr:
		return 14 + p.many*width(p.width)
	case msg.Open:
		sizeA, sizeB, sizeC := shape.Sizes(p.class)
		widthA, widthB, widthC := shape.Widths(p.class)
		return 14 + p.many*(12+sizeA*width(widthA)+sizeB*width(widthB)+sizeC*width(widthC))
	}
	return map[int]int{msg.Start: 18, msg.Commit: 37, msg.Reveal: 37, msg.Verdict: 6, msg.Mark: 10, msg.Want: 18, msg.Grant: 18, msg.Deny: 6, msg.Ack: 5, msg.Abort: 2}[p.kind]
}

func TestLengths(t *testing.T) {
	r := rand.New(rand.NewSource(2))
	for range 5000 {
		p := anyPlan(r)
		for range 3 {
			if s, err := msg.Encode(p.drawn(r)); err != nil || len(s) != p.size() {
				t.Fatalf("a message of %+v has %d bytes, not %d; %v", p, len(s), p.size(), err)
			}
		}
	}
}

// spoilt is bytes that are nearly a message's.
func spoilt(r *rand.Rand) string {
	s, _ := msg.Encode(anyPlan(r).drawn(r))
	b := []byte(s)
	for range r.Intn(4) {
		if len(b) == 0 {
			break
		}
		i := r.Intn(min(len(b), 30)) // what stands ahead says most
		if r.Intn(4) == 0 {
			i = r.Intn(len(b))
		}
		switch r.Intn(6) {
		case 0:
			b = b[:i]
		case 1:
			b = append(b[:i], b[i+1:]...)
		case 2:
			b = append(b[:i:i], append([]byte{byte(r.Intn(4))}, b[i:]...)...)
		case 3:
			b[i] = byte(r.Intn(256))
		case 4:
			b[i] ^= 1 << r.Intn(8)
		default:
			b[i] = byte(r.Intn(70))
		}
	}
	return string(b)
}

// slow reads a message by another hand: by panics, with numbers as they come.
type slow struct {
	left string
}

func (x *slow) bytes(n int) string {
	if n > len(x.left) {
		panic(api.ErrShort)
	}
	s := x.left[:n]
	x.left = x.left[n:]
	return s
}

func (x *slow) number(size int) uint64 {
	var room [8]byte
	copy(room[8-size:], x.bytes(size))
	return binary.BigEndian.Uint64(room[:])
}

func (x *slow) words(width, most int) []uint64 {
	if width < 1 || width > 64 {
		panic(api.ErrShape)
	}
	count, size := x.number(4), (width+7)/8
	if count > uint64(most) {
		panic(api.ErrLimit)
	}
	if int(count)*size > len(x.left) {
		panic(api.ErrShort)
	}
	l := []uint64{}
	for range count {
		w := x.number(size)
		if width < 64 && w >= 1<<width {
			panic(api.ErrForm)
		}
		l = append(l, w)
	}
	return l
}

func (x *slow) class() api.Class {
	var n [5]int
	for i := range n {
		n[i] = int(x.number(1))
	}
	c := api.Class{Kind: n[0], Bits: n[1], M: n[2], K: n[3], N: n[4]}
	side := func(n int) bool { return n >= 1 && n <= 6 }
	plain := c.M == 0 && c.K == 0 && c.N == 0
	if c.Kind < 1 || c.Kind > 4 {
		panic(api.ErrKind)
	}
	if c.Bits < 1 || c.Bits > 64 || c.Kind == 3 && c.Bits != 1 || c.Kind != 2 && !plain || c.Kind == 2 && !(side(c.M) && side(c.K) && side(c.N)) {
		panic(api.ErrShape)
	}
	return c
}

func (x *slow) msg() (m msg.Msg) {
	n32 := func() uint32 { return uint32(x.number(4)) }
	m.Kind = int(x.number(1))
	late := api.OK // what is wrong, but told only where nothing else is
	if m.Kind < 1 || m.Kind > 13 {
		panic(api.ErrKind)
	}
	if m.Kind <= 7 {
		m.Batch = n32()
	} else if m.Kind >= 9 && m.Kind <= 12 {
		m.Ticket = n32()
	}
	switch m.Kind {
	case 1:
		m.Class, m.Count, m.Opened = x.class(), n32(), n32()
		if m.Count == 0 || m.Count > 24 || m.Opened > m.Count {
			late = api.ErrArg
		}
	case 2:
		m.Chunk, m.From, m.Count = n32(), x.number(8), n32()
		if m.Count > 512 {
			panic(api.ErrLimit)
		}
		if m.Count == 0 {
			late = api.ErrLimit
		}
		m.Data = x.bytes(int(m.Count+7) / 8 * 128)
	case 3:
		m.Chunk, m.Width = n32(), uint8(x.number(1))
		m.Words = x.words(int(m.Width), 3072)
	case 4:
		copy(m.Digest[:], x.bytes(32))
	case 5:
		copy(m.Seed[:], x.bytes(32))
	case 6:
		m.Class = x.class()
		count := n32()
		if count > 24 {
			panic(api.ErrLimit)
		}
		widthA, widthB, widthC := shape.Widths(m.Class)
		for range count {
			s := api.Share{A: x.words(widthA, 36), B: x.words(widthB, 36), C: x.words(widthC, 36)}
			m.Shares = append(m.Shares, s)
			sizeA, sizeB, sizeC := shape.Sizes(m.Class)
			if len(s.A) != sizeA || len(s.B) != sizeB || len(s.C) != sizeC {
				late = api.ErrShape
			}
		}
	case 8:
		m.Class, m.Count = x.class(), n32()
	case 9, 10:
		m.Class, m.Count, m.First = x.class(), n32(), n32()
		if m.Count == 0 || m.Count > 64 {
			late = api.ErrArg
		}
	case 7, 11, 13:
		m.Code = uint8(x.number(1))
	}
	if x.left != "" {
		panic(api.ErrTail)
	}
	if late != api.OK {
		panic(late)
	}
	return m
}

func slowly(s string) (m msg.Msg, code api.Errno) {
	defer func() {
		if c, ok := recover().(api.Errno); ok {
			m, code = msg.Msg{}, c
		}
	}()
	return (&slow{s}).msg(), api.OK
}

func TestDecodeOfAnyBytes(t *testing.T) {
	r := rand.New(rand.NewSource(3))
	faults := map[api.Errno]int{}
	kinds := map[int]int{}
	for range 200000 {
		s := spoilt(r)
		if r.Intn(10) == 0 {
			s = anyText(r, r.Intn(40))
			if len(s) > 0 {
				s = string([]byte{byte(r.Intn(15))}) + s[1:]
			}
		}
		want, code := slowly(s)
		got, err := msg.Decode(s)
		if code == api.OK && err != nil || code != api.OK && !isFault(err, code) || !same(got, want) {
			t.Fatalf("%.100x is read as %.300v, %v, not %.300v, %d", s, got, err, want, code)
		}
		if code != api.OK && !reflect.DeepEqual(got, msg.Msg{}) {
			t.Fatalf("with an error %.100x is read as %.300v", s, got)
		}
		if again, err := msg.Encode(got); code == api.OK && (again != s || err != nil) {
			t.Fatalf("%.100x, read, is written as %.100x, %v", s, again, err)
		}
		faults[fault.Code(err)]++
		kinds[got.Kind]++
	}
	for _, code := range []api.Errno{api.OK, api.ErrArg, api.ErrLimit, api.ErrShape, api.ErrShort, api.ErrForm, api.ErrTail, api.ErrKind} {
		if faults[code] < 200 {
			t.Errorf("the fault %d came %d times: these bytes try little", code, faults[code])
		}
	}
	for kind := 1; kind <= 13; kind++ {
		if kinds[kind] < 1000 {
			t.Errorf("the kind %d came %d times: these bytes try little", kind, kinds[kind])
		}
	}
}

func TestGreatestMessagesFitABody(t *testing.T) {
	for _, m := range []msg.Msg{
		{Kind: msg.Cols, Count: 512, Data: string(make([]byte, 8192))},
		{Kind: msg.Corr, Width: 64, Words: slices.Repeat([]uint64{math.MaxUint64}, 3072)},
		{Kind: msg.Open, Class: wide, Shares: slices.Repeat([]api.Share{filled(wide, math.MaxUint64)}, 24)},
	} {
		s, err := msg.Encode(m)
		if err != nil || len(s) > api.MaxMsg {
			t.Errorf("%s has %d bytes, %v", msg.Name(m.Kind), len(s), err)
		}
		if got, err := msg.Decode(s); err != nil || !same(got, m) {
			t.Errorf("%s doesn't come back: %v", msg.Name(m.Kind), err)
		}
	}
}
