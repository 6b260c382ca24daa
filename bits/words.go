package bits

import "trefoil/api"

const (
	wordBits = 64
	byteBits = 8
	mostBits = wordBits * api.MaxWords
)

// allowed tells whether there may be so many bits.
func allowed(n int) bool { return n >= 0 && n <= mostBits }

// needed tells how many words or bytes, of so many bits each, hold n bits.
func needed(n, size int) int { return (n + size - 1) / size }

// single is a word with bit i of a Vec alone, in that bit's place.
func single(i int) uint64 { return 1 << (i % wordBits) }

// bytePlace tells the word that byte i lies in, and the place of its lowest bit there.
func bytePlace(i int) (word, low int) {
	at := i * byteBits
	return at / wordBits, at % wordBits
}

// wordAt tells a word; 0 behind the last one.
func wordAt(words []uint64, i int) uint64 {
	if i >= len(words) {
		return 0
	}
	return words[i]
}

// blank makes n bits that are 0. None are the zero value, so that there is one form of them only.
func blank(n int) Vec {
	if n == 0 {
		return Vec{}
	}
	return Vec{n: n, words: make([]uint64, needed(n, wordBits))}
}

// has tells whether there is a bit i.
func (v Vec) has(i int) bool { return i >= 0 && i < v.n }

// copied tells the same in new memory: a Vec never changes once it is given out.
func (v Vec) copied() Vec {
	c := blank(v.n)
	copy(c.words, v.words)
	return c
}

// made tells n bits of which tell makes each word.
func made(n int, tell func(i int) uint64) Vec {
	v := blank(n)
	for i := range v.words {
		v.words[i] = tell(i)
	}
	v.trim()
	return v
}

// paired tells bits of which turn makes each word, of the words in its place of both.
func paired(a, b Vec, turn func(x, y uint64) uint64) (Vec, api.Errno) {
	if a.n != b.n {
		return Vec{}, api.ErrShape
	}
	return made(a.n, func(i int) uint64 { return turn(a.words[i], b.words[i]) }), api.OK
}

// trim clears the places behind the last bit. It changes the words, and so is for new ones alone.
func (v Vec) trim() {
	if used := v.n % wordBits; used > 0 {
		v.words[len(v.words)-1] &= 1<<used - 1
	}
}

// lay puts the bits of part into v from a place on, where all are still 0. It changes the words, and so is for new ones alone.
func (v Vec) lay(at int, part Vec) {
	room := v.words[at/wordBits:]
	low := at % wordBits
	if low == 0 {
		copy(room, part.words)
		return
	}
	for i, word := range part.words {
		room[i] |= word << low
		if over := word >> (wordBits - low); over != 0 { // the last word's may be none, and then there is no word for it
			room[i+1] |= over
		}
	}
}
