package trans

import "trefoil/api"

const (
	wordBits = 64
	rowWords = api.Kappa / wordBits
)

// square is 64 words of 64 bits: a block of columns or of rows, turned at once, since bit by bit takes far more steps.
type square [wordBits]uint64

// ofColumns tells a block of 64 columns, given by their words.
func ofColumns(words [][]uint64, block int) square {
	var s square
	for i := range s {
		s[i] = words[i][block]
	}
	return s
}

// toColumns lays the square's words into a block of 64 columns.
func (s *square) toColumns(words [][]uint64, block int) {
	for i, word := range s {
		words[i][block] = word
	}
}

// ofRows tells a block of rows, of each the one word. The last block may have fewer than 64: what is behind is 0.
func ofRows(rows []api.Row, part, block int) square {
	var s square
	for j, row := range inBlock(rows, block) {
		s[j] = row[part]
	}
	return s
}

// toRows lays the square's words into a block of rows, in each as the one word.
func (s *square) toRows(rows []api.Row, part, block int) {
	here := inBlock(rows, block)
	for j := range here {
		here[j][part] = s[j]
	}
}

// inBlock tells the rows that lie in a block, in the same memory.
func inBlock(rows []api.Row, block int) []api.Row {
	from := block * wordBits
	return rows[from:min(from+wordBits, len(rows))]
}

// turn puts bit i of word j where bit j of word i was: the two quarters that lie across change places, then the same is done within each quarter, down to single bits.
func (s *square) turn() {
	low := ^uint64(0)
	for half := wordBits / 2; half > 0; half /= 2 {
		low ^= low << half // the lower half of each stretch of 2 * half bits
		for j := range s {
			if j&half == 0 {
				s.cross(j, half, low)
			}
		}
	}
}

// cross changes the upper halves of the word j with the lower halves of the word that lies half a stretch behind.
func (s *square) cross(j, half int, low uint64) {
	unlike := (s[j]>>half ^ s[j+half]) & low
	s[j] ^= unlike << half
	s[j+half] ^= unlike
}
