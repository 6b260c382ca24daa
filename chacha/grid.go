package chacha

import "trefoil/api"

const (
	gridWords   = 16            // words of a grid: four rows of four
	blockSize   = 4 * gridWords // bytes of a block
	nonceSize   = 12            // bytes of a nonce
	doubleTurns = 10            // how often the columns, and then the slants, are turned
	keyAt       = 4             // where the key's words begin in a grid
	counterAt   = 12            // where the counter stands in a grid
	nonceAt     = 13            // where the nonce's words begin in a grid
	counters    = 1 << 32       // how many numbers a counter has
)

// grid is the words of a block, row by row.
type grid [gridWords]uint32

// lay lays a block's first words; the nonce has the bytes that it must have.
func lay(key api.Seed, nonce string, counter uint32) grid {
	g := grid{0x61707865, 0x3320646e, 0x79622d32, 0x6b206574}
	g.put(keyAt, string(key[:]))
	g[counterAt] = counter
	g.put(nonceAt, nonce)
	return g
}

// put lays words of bytes into the grid, from a place on.
func (g *grid) put(at int, bytes string) {
	for i := range len(bytes) / 4 {
		g[at+i] = word(bytes[4*i : 4*i+4])
	}
}

// turn turns four words of the grid by Quarter.
func (g *grid) turn(a, b, c, d int) {
	g[a], g[b], g[c], g[d] = Quarter(g[a], g[b], g[c], g[d])
}

// turnAll turns each column, and then each slant.
func (g *grid) turnAll() {
	for i := range 4 {
		g.turn(i, 4+i, 8+i, 12+i)
	}
	for i := range 4 {
		g.turn(i, 4+(i+1)%4, 8+(i+2)%4, 12+(i+3)%4)
	}
}

// block makes the bytes of a grid that was laid: its words turned, and added to what they were, so that the turns can't be undone.
func (g *grid) block() [blockSize]byte {
	turned := *g
	for range doubleTurns {
		turned.turnAll()
	}
	var block [blockSize]byte
	for i := range gridWords {
		putWord(block[4*i:], turned[i]+g[i])
	}
	return block
}

// word tells four bytes as a word, the lowest first.
func word(bytes string) uint32 {
	return uint32(bytes[0]) | uint32(bytes[1])<<8 | uint32(bytes[2])<<16 | uint32(bytes[3])<<24
}

// putWord lays a word's bytes, the lowest first.
func putWord(bytes []byte, w uint32) {
	for i := range 4 {
		bytes[i] = byte(w >> (8 * i))
	}
}
