package msg_test

import (
	"math"
	"slices"
	"strings"
	"testing"

	"trefoil/api"
	"trefoil/msg"
)

// P10.1

func TestColSize(t *testing.T) {
	for n, want := range map[uint32]int{0: 0, 1: 128, 7: 128, 8: 128, 9: 256, 16: 256, 17: 384, 511: 8192, 512: 8192, 513: 8320, 1<<20 - 1: 1 << 24} {
		if got := msg.ColSize(n); got != want {
			t.Errorf("ColSize of %d is %d, not %d", n, got, want)
		}
	}
}

func TestColSizeOfAll(t *testing.T) {
	want := 0
	for n := range uint32(1 << 20) {
		if n%8 == 1 {
			want += 128
		}
		if got := msg.ColSize(n); got != want {
			t.Fatalf("ColSize of %d is %d, not %d", n, got, want)
		}
	}
}

func TestColSizeOfTooMany(t *testing.T) {
	for _, n := range []uint32{1 << 20, 1 << 31, math.MaxUint32 - 7, math.MaxUint32 - 6, math.MaxUint32} {
		if got := msg.ColSize(n); got < 0 {
			t.Errorf("ColSize of %d is %d", n, got)
		}
	}
}

var words = strings.Fields("start cols corr commit reveal open verdict mark want grant deny ack abort")

func TestName(t *testing.T) {
	for i, want := range words {
		if got := msg.Name(i + 1); got != want {
			t.Errorf("Name of %d is %q, not %q", i+1, got, want)
		}
	}
	kinds := []int{msg.Start, msg.Cols, msg.Corr, msg.Commit, msg.Reveal, msg.Open, msg.Verdict, msg.Mark, msg.Want, msg.Grant, msg.Deny, msg.Ack, msg.Abort}
	for i, kind := range kinds {
		if kind != i+1 {
			t.Errorf("%s is %d, not %d", words[i], kind, i+1)
		}
	}
}

// noKinds are numbers that are no kind, those among them whose low byte is one.
func noKinds() []int {
	l := []int{math.MinInt, math.MinInt + 1, math.MinInt32, math.MaxInt32, 1 << 32, 1<<32 + 1, math.MaxInt - 1, math.MaxInt}
	for kind := -600; kind < 600; kind++ {
		if kind < 1 || kind > 13 {
			l = append(l, kind)
		}
	}
	return l
}

func TestNameOfNoKind(t *testing.T) {
	for _, kind := range noKinds() {
		if got := msg.Name(kind); got != "unknown" {
			t.Errorf("Name of %d is %q", kind, got)
		}
	}
}

// P10.2

var (
	bit    = api.Class{Kind: api.Bit, Bits: 1}
	wide   = api.Class{Kind: api.Matrix, Bits: 64, M: 6, K: 6, N: 6}
	oblong = api.Class{Kind: api.Matrix, Bits: 9, M: 2, K: 3, N: 4}
)

func scalar(bits int) api.Class { return api.Class{Kind: api.Scalar, Bits: bits} }

func daBit(bits int) api.Class { return api.Class{Kind: api.DaBit, Bits: bits} }

// wrongClasses are classes that may not be, and their errors.
var wrongClasses = map[api.Class]api.Errno{
	{}:                  api.ErrKind,
	{Kind: 5, Bits: 8}:  api.ErrKind,
	{Kind: -1, Bits: 8}: api.ErrKind,
	{Kind: math.MaxInt, Bits: math.MaxInt, M: math.MinInt}: api.ErrKind,
	{Kind: 257, Bits: 8}:                 api.ErrKind,
	scalar(0):                            api.ErrShape,
	scalar(65):                           api.ErrShape,
	scalar(264):                          api.ErrShape,
	{Kind: 1, Bits: 8, N: 1}:             api.ErrShape,
	{Kind: 3, Bits: 2}:                   api.ErrShape,
	{Kind: 2, Bits: 8}:                   api.ErrShape,
	{Kind: 2, M: 1, K: 1, N: 1}:          api.ErrShape,
	{Kind: 2, Bits: 8, M: 1, K: 7, N: 1}: api.ErrShape,
	daBit(-8):                            api.ErrShape,
}

func checks(t *testing.T, m msg.Msg, want api.Errno) {
	t.Helper()
	if got := msg.Check(m); got != want {
		t.Errorf("Check of %s %.300v is %d, not %d", msg.Name(m.Kind), m, got, want)
	}
	if got := msg.Check(cluttered(m)); got != want {
		t.Errorf("Check of %s %.300v, with what it has not, is %d, not %d", msg.Name(m.Kind), m, got, want)
	}
}

// cluttered is the message with something wrong in all that its kind has not.
func cluttered(m msg.Msg) msg.Msg {
	has := func(kinds ...int) bool { return slices.Contains(kinds, m.Kind) }
	out := msg.Msg{
		Kind: m.Kind, Batch: math.MaxUint32, Chunk: math.MaxUint32, From: math.MaxUint64,
		Class: api.Class{Kind: math.MaxInt, Bits: math.MinInt, M: -1, K: -1, N: -1},
		Count: math.MaxUint32, Opened: math.MaxUint32, First: math.MaxUint32, Ticket: math.MaxUint32, Code: 255,
		Data: "data", Width: 255, Words: slices.Repeat([]uint64{math.MaxUint64}, 4000),
		Shares: make([]api.Share, 25),
	}
	for i := range out.Digest {
		out.Digest[i], out.Seed[i] = 255, 254
	}
	if has(msg.Start, msg.Cols, msg.Corr, msg.Commit, msg.Reveal, msg.Open, msg.Verdict) {
		out.Batch = m.Batch
	}
	if has(msg.Start, msg.Open, msg.Mark, msg.Want, msg.Grant) {
		out.Class = m.Class
	}
	if has(msg.Start, msg.Cols, msg.Mark, msg.Want, msg.Grant) {
		out.Count = m.Count
	}
	if has(msg.Want, msg.Grant, msg.Deny, msg.Ack) {
		out.Ticket = m.Ticket
	}
	if has(msg.Cols, msg.Corr) {
		out.Chunk = m.Chunk
	}
	if has(msg.Want, msg.Grant) {
		out.First = m.First
	}
	if has(msg.Verdict, msg.Deny, msg.Abort) {
		out.Code = m.Code
	}
	switch m.Kind {
	case msg.Start:
		out.Opened = m.Opened
	case msg.Cols:
		out.From, out.Data = m.From, m.Data
	case msg.Corr:
		out.Width, out.Words = m.Width, m.Words
	case msg.Commit:
		out.Digest = m.Digest
	case msg.Reveal:
		out.Seed = m.Seed
	case msg.Open:
		out.Shares = m.Shares
	}
	return out
}

func TestCheckOfStart(t *testing.T) {
	for _, c := range []api.Class{scalar(1), scalar(64), oblong, wide, bit, daBit(64)} {
		for count := range uint32(40) {
			for opened := range uint32(40) {
				want := api.ErrArg
				if count >= 1 && count <= 24 && opened <= count {
					want = api.OK
				}
				checks(t, msg.Msg{Kind: msg.Start, Class: c, Count: count, Opened: opened}, want)
			}
		}
	}
	for _, n := range []uint32{1 << 8, 1<<16 + 1, 1<<31 + 1, math.MaxUint32} {
		checks(t, msg.Msg{Kind: msg.Start, Class: bit, Count: n}, api.ErrArg)
		checks(t, msg.Msg{Kind: msg.Start, Class: bit, Count: n, Opened: n}, api.ErrArg)
		checks(t, msg.Msg{Kind: msg.Start, Class: bit, Count: 24, Opened: n}, api.ErrArg)
	}
}

func TestCheckOfWrongClasses(t *testing.T) {
	for c, want := range wrongClasses {
		for _, kind := range []int{msg.Start, msg.Open, msg.Mark, msg.Want, msg.Grant} {
			checks(t, msg.Msg{Kind: kind, Class: c, Count: 1}, want)
			checks(t, msg.Msg{Kind: kind, Class: c, Opened: 1, Shares: make([]api.Share, 25)}, want) // ahead of all that is wrong behind it
			checks(t, msg.Msg{Kind: kind, Class: c, Count: 1, Shares: []api.Share{{A: []uint64{0}, B: []uint64{0}, C: []uint64{0}}}}, want)
		}
	}
}

func TestCheckOfCols(t *testing.T) {
	data := strings.Repeat("x", 9000)
	for count := range uint32(520) {
		size := 128 * int((count+7)/8)
		if count < 1 || count > 512 {
			checks(t, msg.Msg{Kind: msg.Cols, Count: count, Data: data[:size]}, api.ErrLimit)
			checks(t, msg.Msg{Kind: msg.Cols, Count: count, Data: data[:size+1]}, api.ErrLimit)
			continue
		}
		checks(t, msg.Msg{Kind: msg.Cols, Count: count, Data: data[:size]}, api.OK)
		for _, other := range []int{0, 1, 128, size - 128, size - 1, size + 1, size + 128, 9000} {
			if other != size {
				checks(t, msg.Msg{Kind: msg.Cols, Count: count, Data: data[:other]}, api.ErrShape)
			}
		}
	}
	checks(t, msg.Msg{Kind: msg.Cols, Count: math.MaxUint32}, api.ErrLimit)
	checks(t, msg.Msg{Kind: msg.Cols, Count: 1<<16 + 1, Data: data[:128]}, api.ErrLimit)
	checks(t, msg.Msg{Kind: msg.Cols, Batch: math.MaxUint32, Chunk: math.MaxUint32, From: math.MaxUint64, Count: 1, Data: data[:128]}, api.OK)
}

func TestCheckOfCorr(t *testing.T) {
	for width := range 256 {
		m := msg.Msg{Kind: msg.Corr, Width: uint8(width)}
		if width < 1 || width > 64 {
			checks(t, m, api.ErrShape)
			m.Words = slices.Repeat([]uint64{math.MaxUint64}, 3073)
			checks(t, m, api.ErrShape)
			continue
		}
		checks(t, m, api.OK)
		most := uint64(math.MaxUint64) >> (64 - width)
		m.Words = slices.Repeat([]uint64{most}, 3072)
		checks(t, m, api.OK)
		m.Words = append(m.Words, 0)
		checks(t, m, api.ErrLimit)
		if width == 64 {
			continue
		}
		m.Words[0] = most + 1
		checks(t, m, api.ErrLimit)
		for _, place := range []int{0, 1, 1500, 3071} {
			for _, above := range []uint64{most + 1, 1 << 63, math.MaxUint64} {
				m.Words = slices.Repeat([]uint64{most}, 3072)
				m.Words[place] = above
				checks(t, m, api.ErrForm)
			}
		}
		m.Words = []uint64{most + 1}
		checks(t, m, api.ErrForm)
	}
}

// filled is a share of a class, all of whose numbers are one, as far as their bits have room for it.
func filled(c api.Class, x uint64) api.Share {
	part := func(size, width int) []uint64 {
		return slices.Repeat([]uint64{x & (math.MaxUint64 >> (64 - width))}, size)
	}
	switch c.Kind {
	case api.Matrix:
		return api.Share{A: part(c.M*c.K, c.Bits), B: part(c.K*c.N, c.Bits), C: part(c.M*c.N, c.Bits)}
	case api.DaBit:
		return api.Share{A: part(1, 1), B: part(1, c.Bits)}
	}
	return api.Share{A: part(1, c.Bits), B: part(1, c.Bits), C: part(1, c.Bits)}
}

func TestCheckOfOpen(t *testing.T) {
	for _, c := range []api.Class{scalar(1), scalar(12), scalar(64), oblong, wide, bit, daBit(1), daBit(64)} {
		for n := range 30 {
			want := api.OK
			if n > 24 {
				want = api.ErrLimit
			}
			m := msg.Msg{Kind: msg.Open, Class: c, Shares: slices.Repeat([]api.Share{filled(c, math.MaxUint64)}, n)}
			checks(t, m, want)
			if n == 0 {
				continue
			}
			for _, wrong := range []api.Share{{}, {A: make([]uint64, 1)}, {A: make([]uint64, 1), B: make([]uint64, 1), C: make([]uint64, 2)}, filled(api.Class{Kind: api.Matrix, Bits: 1, M: 5, K: 4, N: 2}, 1)} {
				for _, place := range []int{0, n / 2, n - 1} {
					m.Shares = slices.Repeat([]api.Share{filled(c, 1)}, n)
					m.Shares[place] = wrong
					if n <= 24 {
						want = api.ErrShape
					}
					checks(t, m, want)
				}
			}
		}
	}
	checks(t, msg.Msg{Kind: msg.Open, Class: scalar(3), Shares: []api.Share{{A: []uint64{7}, B: []uint64{7}, C: []uint64{8}}}}, api.ErrShape)
	checks(t, msg.Msg{Kind: msg.Open, Class: daBit(3), Shares: []api.Share{{A: []uint64{2}, B: []uint64{7}}}}, api.ErrShape)
}

func TestCheckOfMark(t *testing.T) {
	for _, n := range []uint32{0, 1, 64, 65, math.MaxUint32} {
		checks(t, msg.Msg{Kind: msg.Mark, Class: oblong, Count: n}, api.OK)
	}
}

func TestCheckOfWantAndGrant(t *testing.T) {
	for _, kind := range []int{msg.Want, msg.Grant} {
		for n := range uint32(300) {
			want := api.ErrArg
			if n >= 1 && n <= 64 {
				want = api.OK
			}
			checks(t, msg.Msg{Kind: kind, Class: daBit(8), Count: n, Ticket: math.MaxUint32, First: math.MaxUint32}, want)
			checks(t, msg.Msg{Kind: kind, Class: daBit(8), Count: n}, want)
		}
		checks(t, msg.Msg{Kind: kind, Class: bit, Count: math.MaxUint32}, api.ErrArg)
		checks(t, msg.Msg{Kind: kind, Class: bit, Count: 1<<16 + 1}, api.ErrArg)
	}
}

func TestCheckOfOthers(t *testing.T) {
	for _, kind := range []int{msg.Commit, msg.Reveal, msg.Verdict, msg.Deny, msg.Ack, msg.Abort} {
		checks(t, msg.Msg{Kind: kind}, api.OK)
		checks(t, msg.Msg{Kind: kind, Batch: math.MaxUint32, Ticket: math.MaxUint32, Code: 255}, api.OK)
	}
}

func TestCheckOfNoKind(t *testing.T) {
	for _, kind := range noKinds() {
		checks(t, msg.Msg{Kind: kind}, api.ErrKind)
		checks(t, msg.Msg{Kind: kind, Class: bit, Count: 1}, api.ErrKind)
	}
}

func TestCheckChangesNothing(t *testing.T) {
	room := []uint64{1, 2, 3, 4, 5}
	shares := []api.Share{{A: room[:1], B: room[1:2], C: room[2:3]}, {A: room[3:4]}}
	msg.Check(msg.Msg{Kind: msg.Open, Class: scalar(8), Shares: shares[:1]})
	msg.Check(msg.Msg{Kind: msg.Corr, Width: 2, Words: room[:4]})
	if !slices.Equal(room, []uint64{1, 2, 3, 4, 5}) || len(shares[1].A) != 1 || shares[1].B != nil {
		t.Errorf("there are %v, %v", room, shares)
	}
}
