package baseot

import "trefoil/api"

const (
	wordBits  = 64
	wordBytes = 8
	byteBits  = 8
)

// Bit tells a bit of a row.
func Bit(r api.Row, i int) bool {
	if i < 0 || i >= api.Kappa {
		return false
	}
	return r[i/wordBits]>>(i%wordBits)&1 == 1
}

// Other tells a row with another one's bits turned.
func Other(a, b api.Row) api.Row { return api.Row{a[0] ^ b[0], a[1] ^ b[1]} }

// Times tells a row, or nothing.
func Times(bit bool, r api.Row) api.Row {
	if bit {
		return r
	}
	return api.Row{}
}

// Bytes tells a row as bytes, the lowest first.
func Bytes(r api.Row) string {
	var text [api.Kappa / byteBits]byte
	for i := range text {
		text[i] = byte(r[i/wordBytes] >> (byteBits * (i % wordBytes)))
	}
	return string(text[:])
}
