package iknp

import (
	"trefoil/api"
	"trefoil/bits"
	"trefoil/prg"
)

const (
	columnLane = 0
	top        = 1 << 26 // the numbers of transfers are below
)

// numbered tells whether there may be n transfers at once, and numbers for them from one on.
func numbered(from uint64, n int) api.Errno {
	switch {
	case n < 1 || n > api.MaxOTs:
		return api.ErrLimit
	case from > top-uint64(n): // no sum: it could come round
		return api.ErrCount
	}
	return api.OK
}

// columns tells of each seed the bits of its stream that belong to n transfers.
func columns(seeds []api.Seed, from uint64, n int) ([]bits.Vec, api.Errno) {
	cols := make([]bits.Vec, len(seeds))
	for i, seed := range seeds {
		col, code := prg.Bits(seed, columnLane, int(from), n)
		if code != api.OK {
			return nil, code
		}
		cols[i] = col
	}
	return cols, api.OK
}

// allOf tells whether all columns have n bits.
func allOf(cols []bits.Vec, n int) bool {
	for _, col := range cols {
		if col.Len() != n {
			return false
		}
	}
	return true
}

// xor tells one column with the bits of others turned.
func xor(col bits.Vec, others ...bits.Vec) (bits.Vec, api.Errno) {
	for _, other := range others {
		both, code := bits.Xor(col, other)
		if code != api.OK {
			return bits.Vec{}, code
		}
		col = both
	}
	return col, api.OK
}
