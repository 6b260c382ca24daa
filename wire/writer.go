package wire

import (
	"strings"

	"trefoil/bits"
)

// Writer writes fields; its zero value has written none.
type Writer struct {
	last *piece
}

// piece is what one call wrote, behind what was written ahead of it. It never changes, so that a Writer and its copy, which have pieces in common, can't write over one another.
type piece struct {
	ahead *piece
	text  string
	end   int // how many bytes there are with this piece
}

// U8 writes a number in a byte.
func (w *Writer) U8(x uint8) { w.number(uint64(x), 1) }

// U32 writes a number in four bytes.
func (w *Writer) U32(x uint32) { w.number(uint64(x), 4) }

// U64 writes a number in eight bytes.
func (w *Writer) U64(x uint64) { w.number(x, 8) }

// Blob writes bytes behind how many they are.
func (w *Writer) Blob(s string) {
	w.list(len(s), s)
}

// Raw writes bytes.
func (w *Writer) Raw(s string) {
	w.add(strings.Clone(s)) // what is handed in isn't kept
}

// Words writes words behind how many they are, each in as many bytes as bits need; nothing, if a word can't have so many bits.
func (w *Writer) Words(width int, l []uint64) {
	if !isWidth(width) {
		return
	}
	size := bytesFor(width)
	words := make([]byte, 0, len(l)*size)
	for _, x := range l {
		words = appendNumber(words, x, size)
	}
	w.list(len(l), string(words))
}

// Bits writes bits behind how many they are.
func (w *Writer) Bits(v bits.Vec) {
	w.list(v.Len(), v.Bytes())
}

// Bytes tells all that was written.
func (w *Writer) Bytes() string {
	if w == nil || w.last == nil {
		return ""
	}
	all := make([]byte, w.last.end)
	for p := w.last; p != nil; p = p.ahead {
		copy(all[p.end-len(p.text):], p.text)
	}
	return string(all)
}

// number writes a number in so many bytes.
func (w *Writer) number(x uint64, size int) {
	w.add(string(appendNumber(nil, x, size)))
}

// list writes how many things there are, and the bytes that hold them.
func (w *Writer) list(count int, held string) {
	w.add(string(appendNumber(nil, uint64(count), countBytes)) + held)
}

// add puts a piece behind what was written.
func (w *Writer) add(text string) {
	if w == nil || text == "" {
		return
	}
	end := len(text)
	if w.last != nil {
		end += w.last.end
	}
	w.last = &piece{ahead: w.last, text: text, end: end}
}
