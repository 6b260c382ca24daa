package ring

import "trefoil/api"

// doublings is how often Inverse doubles the bits that are right: three of them at first, and 96 in the end, more than the 64 of the longest number.
const doublings = 5

// allowed tells whether numbers may have so many bits.
func allowed(l int) bool { return l >= 1 && l <= api.MaxBits }

// isSide tells whether a matrix may have so many rows or columns.
func isSide(n int) bool { return n >= 1 && n <= api.MaxDim }

// filled tells whether a list is a matrix of so many rows and columns. The sides are asked first, so that their product stays small.
func filled(rows, columns int, list []uint64) bool {
	return isSide(rows) && isSide(columns) && len(list) == rows*columns
}

// paired tells what reckon makes of the numbers in each place of both lists.
func paired(l int, a, b []uint64, reckon func(l int, x, y uint64) uint64) ([]uint64, api.Errno) {
	if len(a) != len(b) {
		return nil, api.ErrShape
	}
	out := make([]uint64, len(a))
	for i := range len(a) {
		out[i] = reckon(l, a[i], b[i])
	}
	return out, api.OK
}
