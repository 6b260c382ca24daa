package shape_test

import (
	"errors"
	"math"
	"math/rand"
	"slices"
	"testing"

	"trefoil/api"
	"trefoil/fault"
	"trefoil/shape"
	"trefoil/wire"
)

// P9.4

func numbers(c api.Class) []int { return []int{c.Kind, c.Bits, c.M, c.K, c.N} }

func sign(x int) int {
	switch {
	case x < 0:
		return -1
	case x > 0:
		return 1
	}
	return 0
}

func ordered(t *testing.T, a, b api.Class, want int) {
	t.Helper()
	if got, back := sign(shape.Order(a, b)), sign(shape.Order(b, a)); got != want || back != -want {
		t.Errorf("of %v and %v: %d, and back %d, not %d", a, b, got, back, want)
	}
}

func TestOrder(t *testing.T) {
	ordered(t, scalar(9), api.Class{Kind: 2}, -1)
	ordered(t, scalar(64), matrix(1, 1, 1, 1), -1)
	ordered(t, matrix(64, 6, 6, 6), bit, -1)
	ordered(t, bit, daBit(1), -1)
	ordered(t, scalar(8), scalar(9), -1)
	ordered(t, matrix(8, 6, 6, 6), matrix(9, 1, 1, 1), -1)
	ordered(t, matrix(8, 1, 6, 6), matrix(8, 2, 1, 1), -1)
	ordered(t, matrix(8, 2, 1, 6), matrix(8, 2, 2, 1), -1)
	ordered(t, matrix(8, 2, 3, 4), matrix(8, 2, 3, 5), -1)
	ordered(t, matrix(8, 2, 3, 4), matrix(8, 2, 3, 4), 0)
	ordered(t, api.Class{}, api.Class{}, 0)
	ordered(t, api.Class{}, scalar(1), -1)
}

func TestOrderOfAll(t *testing.T) {
	l := classes()
	for i := range len(l) - 1 {
		ordered(t, l[i], l[i+1], -1)
		ordered(t, l[i], l[i], 0)
		ordered(t, l[i/2], l[i+1], -1)
	}
}

func TestOrderOfAnyNumbers(t *testing.T) {
	r := rand.New(rand.NewSource(1))
	odd := []int{math.MinInt, math.MinInt + 1, -1, 0, 1, 2, math.MaxInt - 1, math.MaxInt}
	draw := func() int { return odd[r.Intn(len(odd))] }
	for range 100000 {
		a := api.Class{Kind: draw(), Bits: draw(), M: draw(), K: draw(), N: draw()}
		b := a
		for i, number := range []*int{&b.Kind, &b.Bits, &b.M, &b.K, &b.N} {
			if r.Intn(i+2) == 0 {
				*number = draw()
			}
		}
		ordered(t, a, b, slices.Compare(numbers(a), numbers(b)))
	}
}

func TestPut(t *testing.T) {
	for c, want := range map[api.Class]string{
		scalar(32):          "\x01\x20\x00\x00\x00",
		matrix(16, 2, 3, 4): "\x02\x10\x02\x03\x04",
		bit:                 "\x03\x01\x00\x00\x00",
		daBit(64):           "\x04\x40\x00\x00\x00",
	} {
		var w wire.Writer
		w.Raw("ahead")
		shape.Put(&w, c)
		w.U8(9)
		if got := w.Bytes(); got != "ahead"+want+"\x09" {
			t.Errorf("Put of %v is %x", c, got)
		}
	}
	shape.Put(nil, bit)
	shape.Put(nil, api.Class{})
}

func TestPutOfAll(t *testing.T) {
	for _, c := range classes() {
		var w wire.Writer
		shape.Put(&w, c)
		if got := w.Bytes(); got != string([]byte{byte(c.Kind), byte(c.Bits), byte(c.M), byte(c.K), byte(c.N)}) {
			t.Errorf("Put of %v is %x", c, got)
		}
	}
}

func TestPutOfWhatMayNotBe(t *testing.T) {
	for c := range wrongs() {
		var w wire.Writer
		w.Raw("ahead")
		shape.Put(&w, c)
		if got := w.Bytes(); got != "ahead" {
			t.Errorf("Put of %v is %x", c, got)
		}
	}
}

// reads looks what Get tells at some bytes, with others ahead of them: the class, how many bytes are read, and the fault at the field.
func reads(t *testing.T, s string, c api.Class, read int, code api.Errno) {
	t.Helper()
	for _, field := range []string{"class", "", "a: b"} {
		r := wire.NewReader("z" + s)
		r.U8("ahead")
		got, err := shape.Get(r, field), r.Err()
		if got != c || r.At() != 1+read || fault.Code(err) != code {
			t.Errorf("Get at %x is %v, %d bytes, %v, not %v, %d bytes, %d", s, got, r.At(), err, c, read, code)
		}
		path := fault.Path(err)
		if code != api.OK && (!errors.Is(err, code) || len(path) == 0 || path[len(path)-1] != field) {
			t.Errorf("Get at %x has the fault %v at %q", s, err, path)
		}
		if code != api.OK && (shape.Get(r, "behind") != api.Class{} || fault.Code(r.Err()) != code || r.At() != 1+read) {
			t.Errorf("behind the fault at %x something is read, or the fault is %v", s, r.Err())
		}
	}
}

func TestGet(t *testing.T) {
	reads(t, "\x01\x20\x00\x00\x00", scalar(32), 5, api.OK)
	reads(t, "\x02\x10\x02\x03\x04\x01\x01", matrix(16, 2, 3, 4), 5, api.OK)
	reads(t, "\x03\x01\x00\x00\x00", bit, 5, api.OK)
	reads(t, "\x04\x40\x00\x00\x00tail", daBit(64), 5, api.OK)
}

func TestGetTooShort(t *testing.T) {
	for _, whole := range []string{"\x01\x20\x00\x00\x00", "\x02\x10\x02\x03\x04", "\x03\x01\x00\x00\x00", "\x04\x40\x00\x00\x00", "\x05\xff\xff\xff\xff"} {
		for n := range 5 {
			reads(t, whole[:n], api.Class{}, n, api.ErrShort)
		}
	}
}

func TestGetOfWhatMayNotBe(t *testing.T) {
	reads(t, "\x00\x08\x00\x00\x00", api.Class{}, 5, api.ErrKind)
	reads(t, "\x05\x08\x00\x00\x00", api.Class{}, 5, api.ErrKind)
	reads(t, "\xff\xff\xff\xff\xff", api.Class{}, 5, api.ErrKind)
	reads(t, "\x01\x00\x00\x00\x00", api.Class{}, 5, api.ErrShape)
	reads(t, "\x01\x41\x00\x00\x00", api.Class{}, 5, api.ErrShape)
	reads(t, "\x01\x08\x00\x00\x01", api.Class{}, 5, api.ErrShape)
	reads(t, "\x02\x08\x01\x07\x01tail", api.Class{}, 5, api.ErrShape)
	reads(t, "\x03\x02\x00\x00\x00", api.Class{}, 5, api.ErrShape)
	reads(t, "\x04\x08\x01\x01\x01", api.Class{}, 5, api.ErrShape)
}

func TestGetBehindAFault(t *testing.T) {
	r := wire.NewReader("\x03\x01\x00\x00\x00")
	r.Fail("first", api.ErrAbort)
	if c := shape.Get(r, "class"); c != (api.Class{}) || r.At() != 0 || fault.Code(r.Err()) != api.ErrAbort || !slices.Equal(fault.Path(r.Err()), []string{"first"}) {
		t.Errorf("Get behind a fault is %v, at %d, with %v", c, r.At(), r.Err())
	}
}

func TestGetOfNoReader(t *testing.T) {
	for _, r := range []*wire.Reader{nil, new(wire.Reader)} {
		if c := shape.Get(r, "class"); c != (api.Class{}) || fault.Code(r.Err()) != api.ErrNil {
			t.Errorf("Get of no reader is %v, %v", c, r.Err())
		}
	}
}
