package wire

import (
	"strings"

	"trefoil/api"
	"trefoil/bits"
	"trefoil/fault"
)

// Reader reads fields; behind the first fault all is nothing.
type Reader struct {
	made  bool // so that a reader of no bytes isn't taken for what no call made
	text  string
	at    int
	code  api.Errno // the first fault; OK while there is none
	field string    // which one has it
}

// NewReader makes a reader of bytes.
func NewReader(s string) *Reader { return &Reader{made: true, text: s} }

// Fail notes a fault at a field, if there is none yet.
func (r *Reader) Fail(field string, code api.Errno) {
	if r.isOver() || code == api.OK {
		return
	}
	r.code, r.field = code, field
}

// Err tells the first fault.
func (r *Reader) Err() error {
	if r.isNone() {
		return fault.New(api.ErrNil, "wire")
	}
	return fault.New(r.code, r.field) // a new one each time: who is told it may change it
}

// At tells how many bytes are read.
func (r *Reader) At() int {
	if r.isNone() {
		return 0
	}
	return r.at
}

// U8 reads a number of a byte.
func (r *Reader) U8(field string) uint8 { return uint8(r.number(field, 1)) }

// U32 reads a number of four bytes.
func (r *Reader) U32(field string) uint32 { return uint32(r.number(field, 4)) }

// U64 reads a number of eight bytes.
func (r *Reader) U64(field string) uint64 { return r.number(field, 8) }

// Blob reads bytes, at most so many.
func (r *Reader) Blob(field string, most int) string {
	return read(r, field, func(rest string) (string, int, api.Errno) {
		l, code := counted(rest, min(most, mostThings), byteBits)
		return strings.Clone(l.held), l.size(), code
	})
}

// Raw reads so many bytes.
func (r *Reader) Raw(field string, n int) string {
	return read(r, field, func(rest string) (string, int, api.Errno) {
		if n < 0 || n > api.MaxMsg {
			return "", 0, api.ErrArg
		}
		part, code := first(rest, n)
		return strings.Clone(part), n, code
	})
}

// Words reads words of so many bits, at most so many.
func (r *Reader) Words(field string, width, most int) []uint64 {
	return read(r, field, func(rest string) ([]uint64, int, api.Errno) {
		if !isWidth(width) {
			return nil, 0, api.ErrShape
		}
		l, code := counted(rest, min(most, mostThings), byteBits*bytesFor(width))
		if code != api.OK {
			return nil, 0, code
		}
		words, code := l.words(width)
		return words, l.size(), code
	})
}

// Bits reads bits, at most so many.
func (r *Reader) Bits(field string, most int) bits.Vec {
	return read(r, field, func(rest string) (bits.Vec, int, api.Errno) {
		l, code := counted(rest, min(most, mostBits), 1)
		if code != api.OK {
			return bits.Vec{}, 0, code
		}
		v, code := bits.Read(l.count, l.held)
		return v, l.size(), code
	})
}

// End tells whether all was read, without a fault; what is left is one.
func (r *Reader) End() error {
	if !r.isNone() && r.at < len(r.text) {
		r.Fail("end", api.ErrTail)
	}
	return r.Err()
}

// number reads a number of so many bytes.
func (r *Reader) number(field string, size int) uint64 {
	return read(r, field, func(rest string) (uint64, int, api.Errno) {
		part, code := first(rest, size)
		return numberOf(part), size, code
	})
}

// isNone tells whether there is no reader here, or one that no call made.
func (r *Reader) isNone() bool { return r == nil || !r.made }

// isOver tells whether nothing more is read.
func (r *Reader) isOver() bool { return r.isNone() || r.code != api.OK }
