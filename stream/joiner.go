package stream

import (
	"slices"

	"trefoil/api"
)

// Joiner puts what comes of chunks together, whatever their order.
type Joiner struct {
	made  bool // so that a joiner of no chunks isn't taken for what no call made
	parts []part
}

// part is what comes of a chunk.
type part struct {
	size    int  // how many numbers must come
	came    bool // beside the numbers, since there may be none
	numbers []uint64
}

// New makes a joiner of a plan, of so many numbers for each transfer.
func New(plan []Chunk, each int) (*Joiner, api.Errno) {
	if each < 0 || each > api.MaxDim {
		return nil, api.ErrShape
	}
	if code := check(plan); code != api.OK {
		return nil, code
	}
	parts := make([]part, len(plan))
	for i, chunk := range plan {
		parts[i].size = each * chunk.Count
	}
	return &Joiner{made: true, parts: parts}, api.OK
}

// check tells what is wrong with a plan: of all chunks first what is wrong with one alone.
func check(plan []Chunk) api.Errno {
	ahead := 0
	for _, chunk := range plan {
		if chunk.Count < 1 || chunk.Count > api.MaxChunk || chunk.Skip != ahead {
			return api.ErrArg
		}
		ahead += chunk.Count
	}
	if ahead > api.MaxOTs {
		return api.ErrLimit
	}
	return api.OK
}

// Add takes what came of a chunk.
func (j *Joiner) Add(i int, l []uint64) api.Errno {
	switch {
	case j.isNone():
		return api.ErrNil
	case i < 0 || i >= len(j.parts):
		return api.ErrNone
	case j.parts[i].came:
		return api.ErrTwice
	case len(l) != j.parts[i].size:
		return api.ErrShape
	}
	j.parts[i].came = true
	j.parts[i].numbers = slices.Clone(l) // what is handed in isn't kept
	return api.OK
}

// Left tells how many chunks haven't come.
func (j *Joiner) Left() int {
	if j.isNone() {
		return 0
	}
	left := 0
	for _, p := range j.parts {
		if !p.came {
			left++
		}
	}
	return left
}

// All tells all numbers, in the order of the plan; false: some haven't come.
func (j *Joiner) All() ([]uint64, bool) {
	if j.isNone() || j.Left() > 0 {
		return nil, false
	}
	var all []uint64
	for _, p := range j.parts {
		all = append(all, p.numbers...)
	}
	return all, true
}

// isNone tells whether there is no joiner here, or one that no call made.
func (j *Joiner) isNone() bool { return j == nil || !j.made }
