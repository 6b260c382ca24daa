package stream_test

import (
	"math"
	"slices"
	"testing"

	"trefoil/api"
	"trefoil/stream"
)

// cut makes a plan of chunks of these sizes, whose transfers' numbers a joiner doesn't ask.
func cut(sizes ...int) []stream.Chunk {
	plan, skip := make([]stream.Chunk, 0, len(sizes)), 0
	for _, size := range sizes {
		plan = append(plan, stream.Chunk{From: uint64(1000 + skip), Count: size, Skip: skip})
		skip += size
	}
	return plan
}

// counted are so many numbers, from one on.
func counted(first uint64, n int) []uint64 {
	l := make([]uint64, n)
	for i := range l {
		l[i] = first + uint64(i)
	}
	return l
}

func made(t *testing.T, plan []stream.Chunk, each int) *stream.Joiner {
	t.Helper()
	j, code := stream.New(plan, each)
	if code != api.OK || j == nil {
		t.Fatalf("New of %d chunks, %d each: the error %d", len(plan), each, code)
	}
	return j
}

// isNotMade asks for an error of New, beside which there is nothing.
func isNotMade(t *testing.T, plan []stream.Chunk, each int, want api.Errno) {
	t.Helper()
	if j, code := stream.New(plan, each); code != want || j != nil {
		t.Errorf("New of %d chunks, %d each: the error %d, not %d", len(plan), each, code, want)
	}
}

// takes adds what came of a chunk.
func takes(t *testing.T, j *stream.Joiner, i int, l []uint64) {
	t.Helper()
	left := j.Left()
	if code := j.Add(i, l); code != api.OK {
		t.Fatalf("Add(%d) of %d numbers: the error %d", i, len(l), code)
	}
	if got := j.Left(); got != left-1 {
		t.Fatalf("behind Add(%d) %d are left, and %d ahead of it", i, got, left)
	}
}

// takesNot asks for an error of Add, behind which nothing has changed.
func takesNot(t *testing.T, j *stream.Joiner, i int, l []uint64, want api.Errno) {
	t.Helper()
	left := j.Left()
	all, whole := j.All()
	if code := j.Add(i, l); code != want {
		t.Fatalf("Add(%d) of %d numbers: the error %d, not %d", i, len(l), code, want)
	}
	if got := j.Left(); got != left {
		t.Fatalf("behind an error of Add(%d) %d are left, and %d ahead of it", i, got, left)
	}
	if got, ok := j.All(); ok != whole || !slices.Equal(got, all) {
		t.Fatalf("behind an error of Add(%d) all are others", i)
	}
}

// isWhole asks for all numbers.
func isWhole(t *testing.T, j *stream.Joiner, want []uint64) {
	t.Helper()
	if left := j.Left(); left != 0 {
		t.Fatalf("%d are left", left)
	}
	if got, ok := j.All(); !ok || !slices.Equal(got, want) {
		t.Fatalf("all are %.300v and %t, not %.300v", got, ok, want)
	}
}

// isNotWhole asks how many are left, while there is nothing.
func isNotWhole(t *testing.T, j *stream.Joiner, left int) {
	t.Helper()
	if got := j.Left(); got != left {
		t.Fatalf("%d are left, not %d", got, left)
	}
	if got, ok := j.All(); ok || len(got) != 0 {
		t.Fatalf("all are %.300v and %t, while %d are left", got, ok, left)
	}
}

// P20.3

// wrongEach are how many numbers a transfer doesn't carry.
func wrongEach() []int {
	return []int{-1, -2, -6, 7, 8, 64, 512, 1 << 32, 1<<32 + 1, 1 << 61, 1 << 62, math.MaxInt64, math.MinInt64, math.MinInt64 + 1}
}

func TestNewOfPlans(t *testing.T) {
	for _, n := range []int{0, 1, 511, 512, 513, 1024, 4095, 4096} {
		for each := range 7 {
			plan := planned(t, 77, n)
			if j := made(t, plan, each); n > 0 {
				isNotWhole(t, j, len(plan))
			}
		}
	}
}

// Chunks need not be those of Plan.
func TestNewOfOtherChunks(t *testing.T) {
	for _, plan := range [][]stream.Chunk{
		cut(1), cut(512), cut(1, 1, 1), cut(1, 512, 3), cut(88, 512),
		cut(slices.Repeat([]int{512}, 8)...), cut(slices.Repeat([]int{1}, 4096)...), cut(slices.Repeat([]int{64}, 64)...),
		{{From: 5, Count: 2, Skip: 0}, {From: 5, Count: 2, Skip: 2}},
		{{From: math.MaxUint64, Count: 512, Skip: 0}, {From: 0, Count: 1, Skip: 512}, {From: top + 1, Count: 1, Skip: 513}},
	} {
		for each := range 7 {
			isNotWhole(t, made(t, plan, each), len(plan))
		}
	}
}

func TestNewOfNoChunks(t *testing.T) {
	for each := range 7 {
		for _, plan := range [][]stream.Chunk{nil, {}} {
			j := made(t, plan, each)
			isWhole(t, j, nil)
			takesNot(t, j, 0, nil, api.ErrNone)
			takesNot(t, j, -1, nil, api.ErrNone)
			isWhole(t, j, nil)
		}
	}
}

// How many each carries is asked first.
func TestNewOfWrongEach(t *testing.T) {
	for _, each := range wrongEach() {
		for _, plan := range [][]stream.Chunk{
			nil, cut(1), planned(t, 5, 600), cut(0), cut(513), cut(-1), {{Count: 1, Skip: 1}},
			cut(slices.Repeat([]int{512}, 9)...),
		} {
			isNotMade(t, plan, each, api.ErrShape)
		}
	}
}

// One chunk that has a wrong count is enough, in whichever place.
func TestNewOfWrongCounts(t *testing.T) {
	for _, count := range []int{0, -1, -2, -512, 513, 514, 1024, 4096, 4097, 1 << 32, 1<<32 + 1, math.MaxInt64, math.MinInt64, math.MinInt64 + 1} {
		for at := range 5 {
			for _, size := range []int{1, 300, 512} {
				sizes := slices.Repeat([]int{size}, 5)
				sizes[at] = count
				for each := range 7 {
					isNotMade(t, cut(sizes...), each, api.ErrArg)
				}
			}
		}
	}
}

// One chunk that has a wrong Skip is enough, in whichever place.
func TestNewOfWrongSkips(t *testing.T) {
	for at := range 5 {
		for _, by := range []int{1, -1, 2, 88, 512, -512, 1 << 32, 1 << 62, math.MaxInt64 - 5000, math.MinInt64} {
			for each := range 7 {
				plan := cut(512, 88, 1, 200, 512)
				plan[at].Skip += by
				isNotMade(t, plan, each, api.ErrArg)
			}
		}
	}
	for _, plan := range [][]stream.Chunk{
		{{Count: 2, Skip: 1}},
		{{Count: 2, Skip: 2}},
		{{Count: 2}, {Count: 2}},
		{{Count: 2, Skip: 2}, {Count: 2}},                              // turned about
		{{Count: 2}, {Count: 3, Skip: 1}},                              // how many chunks are ahead
		{{Count: 2}, {Count: 3, Skip: 3}},                              // how many it has itself
		{{Count: 2}, {Count: 3, Skip: 5}},                              // itself, too
		{{Count: 2}, {Count: 3, Skip: 2}, {Count: 1, Skip: 3}},         // the one ahead alone
		{{Count: 512}, {Count: 88, Skip: 512}, {Count: 1, Skip: 1024}}, // as if the one ahead were whole
		planned(t, 5, 1500)[1:],
		slices.Concat(planned(t, 5, 600), planned(t, 605, 600)),
	} {
		isNotMade(t, plan, 2, api.ErrArg)
	}
}

func TestNewOfTooManyTransfers(t *testing.T) {
	eight := slices.Repeat([]int{512}, 8)
	for each := range 7 {
		isNotWhole(t, made(t, cut(eight...), each), 8)
		for _, sizes := range [][]int{
			append(eight[:8:8], 1), append(eight[:8:8], 512), append(eight[:7:7], 511, 2), append(eight[:7:7], 1, 512),
			slices.Repeat([]int{1}, 4097), slices.Repeat([]int{64}, 65), slices.Repeat([]int{512}, 1000),
		} {
			isNotMade(t, cut(sizes...), each, api.ErrLimit)
		}
	}
}

// A chunk that is wrong alone is told ahead of too many together, also where it is behind too many.
func TestNewTellsWrongChunksFirst(t *testing.T) {
	for at := range 12 {
		for _, wrong := range []int{0, -1, 513} {
			sizes := slices.Repeat([]int{512}, 12)
			sizes[at] = wrong
			isNotMade(t, cut(sizes...), 3, api.ErrArg)
		}
		for _, by := range []int{1, -1, 512} {
			plan := cut(slices.Repeat([]int{512}, 12)...)
			plan[at].Skip += by
			isNotMade(t, plan, 3, api.ErrArg)
		}
	}
}

// P20.4

func TestJoiner(t *testing.T) {
	j := made(t, planned(t, 5, 600), 1)
	isNotWhole(t, j, 2)
	takes(t, j, 1, counted(512, 88))
	isNotWhole(t, j, 1)
	takes(t, j, 0, counted(0, 512))
	isWhole(t, j, counted(0, 600))
	isWhole(t, j, counted(0, 600)) // told again
}

func TestJoinerOfSmallChunks(t *testing.T) {
	j := made(t, cut(2, 1, 3), 2)
	takes(t, j, 2, []uint64{7, 8, 9, 10, 11, math.MaxUint64})
	isNotWhole(t, j, 2)
	takes(t, j, 0, []uint64{1, 2, 3, 4})
	isNotWhole(t, j, 1)
	takes(t, j, 1, []uint64{0, 6})
	isWhole(t, j, []uint64{1, 2, 3, 4, 0, 6, 7, 8, 9, 10, 11, math.MaxUint64})
}

func TestJoinerOfMost(t *testing.T) {
	for each := range 7 {
		plan := planned(t, 0, 4096)
		j := made(t, plan, each)
		for i := range plan {
			isNotWhole(t, j, 8-i)
			takes(t, j, i, counted(uint64(512*i*each), 512*each))
		}
		isWhole(t, j, counted(0, 4096*each))
	}
}

// Of no numbers for each transfer chunks come all the same, each once.
func TestJoinerOfNoNumbers(t *testing.T) {
	j := made(t, cut(5, 1), 0)
	takesNot(t, j, 0, []uint64{0}, api.ErrShape)
	takesNot(t, j, 0, make([]uint64, 5), api.ErrShape)
	takes(t, j, 0, nil)
	takesNot(t, j, 0, nil, api.ErrTwice)
	isNotWhole(t, j, 1)
	takes(t, j, 1, []uint64{})
	takesNot(t, j, 1, nil, api.ErrTwice)
	isWhole(t, j, nil)
}

// noPlaces are numbers of chunks that a plan of so many has not.
func noPlaces(n int) []int {
	return []int{n, n + 1, n + 512, 1 << 32, 1<<32 + n, math.MaxInt64, -1, -2, -n - 1, -1 << 32, math.MinInt64, math.MinInt64 + 1}
}

func TestAddOfNoChunk(t *testing.T) {
	for n := 1; n < 9; n++ {
		for each := range 7 {
			j := made(t, cut(slices.Repeat([]int{3}, n)...), each)
			for step := range n + 1 { // of none, of some, and of all that came
				for _, i := range noPlaces(n) {
					takesNot(t, j, i, nil, api.ErrNone)
					takesNot(t, j, i, make([]uint64, 3*each), api.ErrNone)
					takesNot(t, j, i, make([]uint64, 3*each+1), api.ErrNone)
				}
				if step < n {
					takes(t, j, step, make([]uint64, 3*each))
				}
			}
		}
	}
}

// That it came already is told ahead of how many numbers come now.
func TestAddTwice(t *testing.T) {
	for each := range 7 {
		j := made(t, cut(4, 2, 3), each)
		takes(t, j, 1, counted(10, 2*each))
		for range 2 {
			for _, n := range []int{0, 1, each, 2 * each, 4 * each, 2*each + 1, 100} {
				takesNot(t, j, 1, counted(50, n), api.ErrTwice)
			}
		}
		takes(t, j, 0, counted(20, 4*each))
		takes(t, j, 2, counted(90, 3*each))
		for i := range 3 {
			takesNot(t, j, i, counted(50, []int{4, 2, 3}[i]*each), api.ErrTwice)
			takesNot(t, j, i, nil, api.ErrTwice)
		}
		isWhole(t, j, slices.Concat(counted(20, 4*each), counted(10, 2*each), counted(90, 3*each)))
	}
}

func TestAddOfWrongSizes(t *testing.T) {
	sizes := []int{4, 2, 7, 1}
	for each := range 7 {
		j := made(t, cut(sizes...), each)
		for i, size := range sizes {
			for n := range 60 {
				if n != size*each {
					takesNot(t, j, i, make([]uint64, n), api.ErrShape)
				}
			}
			takes(t, j, i, counted(uint64(100*i), size*each)) // wrong ones didn't come
		}
	}
	j := made(t, planned(t, 0, 600), 6)
	for _, n := range []int{0, 1, 88, 512, 527, 529, 600, 3071, 3073, 3600, 4096} {
		takesNot(t, j, 0, make([]uint64, n), api.ErrShape)
		takesNot(t, j, 1, make([]uint64, n), api.ErrShape)
	}
	takesNot(t, j, 0, make([]uint64, 528), api.ErrShape) // the other chunk's
	takesNot(t, j, 1, make([]uint64, 3072), api.ErrShape)
	takes(t, j, 0, make([]uint64, 3072))
	takes(t, j, 1, make([]uint64, 528))
}

func TestJoinerOfNilAndOfNoCall(t *testing.T) {
	for _, j := range []*stream.Joiner{nil, {}, new(stream.Joiner)} {
		for _, i := range append(noPlaces(0), 0, 1) {
			for _, l := range [][]uint64{nil, {}, {1}} {
				if code := j.Add(i, l); code != api.ErrNil {
					t.Errorf("Add(%d) of %d numbers: the error %d", i, len(l), code)
				}
			}
		}
		isNotWhole(t, j, 0)
	}
}
