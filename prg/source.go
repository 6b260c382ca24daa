package prg

import "trefoil/api"

// Source tells words of a stream, one behind the other.
type Source struct {
	made bool // so that a seed of zeros isn't taken for what no call made
	seed api.Seed
	lane uint32
	told int
}

// New makes a source.
func New(seed api.Seed, lane uint32) *Source {
	return &Source{made: true, seed: seed, lane: lane}
}

// Next tells a word.
func (x *Source) Next() (uint64, api.Errno) {
	if x.isNone() {
		return 0, api.ErrNil
	}
	words, code := Words(x.seed, x.lane, x.told, 1)
	if code != api.OK {
		return 0, code
	}
	x.told++
	return words[0], api.OK
}

// At tells how many words were told.
func (x *Source) At() int {
	if x.isNone() {
		return 0
	}
	return x.told
}

// Cut tells the first word that is thrown away for a bound: as many words below it come to each number; 0: none is.
func Cut(n uint64) uint64 {
	if n == 0 {
		return 0
	}
	return -(-n % n) // -n is 2^64 - n, which leaves the same as 2^64, for which a word has no room
}

// Below tells a number below a bound: each comes of as many words.
func (x *Source) Below(n uint64) (uint64, api.Errno) {
	switch {
	case x.isNone():
		return 0, api.ErrNil
	case n == 0:
		return 0, api.ErrArg
	}
	return sift(n, x.Next)
}

// sift takes words from anywhere, so that it can be tried with such as no seed is known to tell.
func sift(n uint64, next func() (uint64, api.Errno)) (uint64, api.Errno) {
	cut := Cut(n)
	for range Tries {
		word, code := next()
		if code != api.OK {
			return 0, code
		}
		if cut == 0 || word < cut {
			return word % n, api.OK
		}
	}
	return 0, api.ErrCount
}

// isNone tells whether there is no source here, or one that no call made.
func (x *Source) isNone() bool { return x == nil || !x.made }
