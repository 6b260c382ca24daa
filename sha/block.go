package sha

import (
	mathbits "math/bits"

	"trefoil/api"
)

const (
	blockSize  = 64            // bytes of a block
	blockWords = blockSize / 4 // words of a block
	rounds     = 64            // words that a block is spread to, each for one round
	lengthAt   = blockSize - 8 // where the length begins in the last block
	endMark    = 128           // the byte behind the last one
)

// state is the eight words that blocks are folded into.
type state [8]uint32

// block is the words of a block.
type block [blockWords]uint32

// first is the words ahead of all blocks.
var first = state{
	0x6a09e667, 0xbb67ae85, 0x3c6ef372, 0xa54ff53a, 0x510e527f, 0x9b05688c, 0x1f83d9ab, 0x5be0cd19,
}

// roots is what stands behind the point of the cube roots of the first primes, one for each round.
var roots = [rounds]uint32{
	0x428a2f98, 0x71374491, 0xb5c0fbcf, 0xe9b5dba5, 0x3956c25b, 0x59f111f1, 0x923f82a4, 0xab1c5ed5,
	0xd807aa98, 0x12835b01, 0x243185be, 0x550c7dc3, 0x72be5d74, 0x80deb1fe, 0x9bdc06a7, 0xc19bf174,
	0xe49b69c1, 0xefbe4786, 0x0fc19dc6, 0x240ca1cc, 0x2de92c6f, 0x4a7484aa, 0x5cb0a9dc, 0x76f988da,
	0x983e5152, 0xa831c66d, 0xb00327c8, 0xbf597fc7, 0xc6e00bf3, 0xd5a79147, 0x06ca6351, 0x14292967,
	0x27b70a85, 0x2e1b2138, 0x4d2c6dfc, 0x53380d13, 0x650a7354, 0x766a0abb, 0x81c2c92e, 0x92722c85,
	0xa2bfe8a1, 0xa81a664b, 0xc24b8b70, 0xc76c51a3, 0xd192e819, 0xd6990624, 0xf40e3585, 0x106aa070,
	0x19a4c116, 0x1e376c08, 0x2748774c, 0x34b0bcb5, 0x391c0cb3, 0x4ed8aa4a, 0x5b9cca4f, 0x682e6ff3,
	0x748f82ee, 0x78a5636f, 0x84c87814, 0x8cc70208, 0x90befffa, 0xa4506ceb, 0xbef9a3f7, 0xc67178f2,
}

// gather tells the words of a block's bytes; those that are missing are 0.
func gather(bytes []byte) block {
	var words block
	for i := range blockWords {
		words[i] = word(bytes[min(4*i, len(bytes)):])
	}
	return words
}

// word tells the first four bytes as a word, the highest first; a last word may have fewer, and what is missing is 0.
func word(bytes []byte) uint32 {
	w := uint32(0)
	switch min(len(bytes), 4) {
	case 4:
		w |= uint32(bytes[3])
		fallthrough
	case 3:
		w |= uint32(bytes[2]) << 8
		fallthrough
	case 2:
		w |= uint32(bytes[1]) << 16
		fallthrough
	case 1:
		w |= uint32(bytes[0]) << 24
	}
	return w
}

// bytesOf tells a word's bytes, the highest first.
func bytesOf(w uint32) [4]byte {
	return [4]byte{byte(w >> 24), byte(w >> 16), byte(w >> 8), byte(w)}
}

// digest tells the bytes of the words that have grown so much.
func digest(grown state) api.Digest {
	var d api.Digest
	for i := range len(grown) {
		bytes := bytesOf(first[i] + grown[i])
		copy(d[4*i:], bytes[:])
	}
	return d
}

// fold tells by how much the words have grown when a block is folded into them.
func fold(grown state, words block) state {
	s := grown
	for i := range len(s) {
		s[i] += first[i]
	}
	s = mix(s, spreadOut(words))
	for i := range len(s) {
		grown[i] += s[i]
	}
	return grown
}

// spreadOut tells the words of all rounds: a block's, and those that are mixed of them.
func spreadOut(words block) [rounds]uint32 {
	var w [rounds]uint32
	copy(w[:], words[:])
	for i := blockWords; i < rounds; i++ {
		x, y := w[i-15], w[i-2]
		w[i] = w[i-16] + (rotr(x, 7) ^ rotr(x, 18) ^ x>>3) + w[i-7] + (rotr(y, 17) ^ rotr(y, 19) ^ y>>10)
	}
	return w
}

// mix tells the words behind all rounds. They are variables of their own within, since an array made anew each round takes far longer.
func mix(s state, spread [rounds]uint32) state {
	a, b, c, d, e, f, g, h := s[0], s[1], s[2], s[3], s[4], s[5], s[6], s[7]
	for i := range rounds {
		t := h + (rotr(e, 6) ^ rotr(e, 11) ^ rotr(e, 25)) + (e&f ^ ^e&g) + roots[i] + spread[i]
		u := (rotr(a, 2) ^ rotr(a, 13) ^ rotr(a, 22)) + (a&b ^ a&c ^ b&c)
		a, b, c, d, e, f, g, h = t+u, a, b, c, d+t, e, f, g
	}
	return state{a, b, c, d, e, f, g, h}
}

// rotr turns a word to the right.
func rotr(x uint32, n int) uint32 { return mathbits.RotateLeft32(x, -n) }
