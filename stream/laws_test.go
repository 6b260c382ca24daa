package stream_test

import (
	"math/rand"
	"slices"
	"testing"

	"trefoil/api"
	"trefoil/stream"
)

// P20.5

// isAll asks that chunks, one behind the other, are so many transfers from a number on, each once and in order.
func isAll(t *testing.T, plan []stream.Chunk, from uint64, n int) {
	t.Helper()
	var numbers []uint64
	for _, chunk := range plan {
		if chunk.Skip != len(numbers) {
			t.Fatalf("of the plan from %d the chunk %v has %d ahead", from, chunk, len(numbers))
		}
		numbers = append(numbers, counted(chunk.From, chunk.Count)...)
	}
	if !slices.Equal(numbers, counted(from, n)) {
		t.Fatalf("the chunks of %d transfers from %d are not all of them in order", n, from)
	}
}

func TestPlansAreAllTransfers(t *testing.T) {
	r := rand.New(rand.NewSource(1))
	for n := 0; n <= 4096; n += 1 + r.Intn(9) {
		for _, from := range []uint64{0, uint64(r.Intn(top - n)), uint64(top - n)} {
			isAll(t, planned(t, from, n), from, n)
		}
	}
	isAll(t, planned(t, top-4096, 4096), top-4096, 4096)
}

// Of what Reserve gave, up to Top, no number comes twice, and none is left out; errors use up none.
func TestNoNumberIsGivenTwice(t *testing.T) {
	r := rand.New(rand.NewSource(2))
	var c stream.Counter
	given := make([]bool, top)
	for c.Next() < top {
		n := min(r.Intn(6000)-200, top-int(c.Next())+r.Intn(2))
		first, code := c.Reserve(n)
		if code != api.OK {
			continue
		}
		for i := range given[first:][:n] {
			if given[first+uint64(i)] {
				t.Fatalf("the number %d is given twice", first+uint64(i))
			}
			given[first+uint64(i)] = true
		}
	}
	if at := slices.Index(given, false); at >= 0 {
		t.Errorf("the number %d is not given", at)
	}
}

// orders tells all orders of so many chunks.
func orders(n int) [][]int {
	if n == 0 {
		return [][]int{nil}
	}
	var l [][]int
	for _, order := range orders(n - 1) {
		for at := range n {
			l = append(l, slices.Insert(slices.Clone(order), at, n-1))
		}
	}
	return l
}

func TestAllDoesNotHangOnTheOrder(t *testing.T) {
	sizes := []int{3, 1, 512, 2, 40}
	for each := range 7 {
		for _, order := range orders(len(sizes)) {
			j := made(t, cut(sizes...), each)
			for step, i := range order {
				isNotWhole(t, j, len(order)-step)
				takes(t, j, i, counted(uint64(cut(sizes...)[i].Skip*each), sizes[i]*each))
			}
			isWhole(t, j, counted(0, 558*each))
		}
	}
}

func TestAllOfPlansInDrawnOrders(t *testing.T) {
	r := rand.New(rand.NewSource(3))
	for range 300 {
		n, each := r.Intn(4097), r.Intn(7)
		plan := planned(t, uint64(r.Intn(top-4096)), n)
		numbers := make([]uint64, n*each)
		for i := range numbers {
			numbers[i] = r.Uint64()
		}
		j := made(t, plan, each)
		for step, i := range r.Perm(len(plan)) {
			isNotWhole(t, j, len(plan)-step)
			takes(t, j, i, numbers[plan[i].Skip*each:(plan[i].Skip+plan[i].Count)*each])
		}
		isWhole(t, j, numbers)
	}
}

// plainJoiner is a second joiner, slow and plain: the sizes of all chunks, and what came, by its place.
type plainJoiner struct {
	sizes []int
	each  int
	came  map[int][]uint64
}

func (p *plainJoiner) add(i int, l []uint64) api.Errno {
	if i < 0 || i >= len(p.sizes) {
		return api.ErrNone
	}
	if _, came := p.came[i]; came {
		return api.ErrTwice
	}
	if len(l) != p.sizes[i]*p.each {
		return api.ErrShape
	}
	p.came[i] = slices.Clone(l)
	return api.OK
}

func (p *plainJoiner) all() []uint64 {
	var l []uint64
	for i := range p.sizes {
		l = append(l, p.came[i]...)
	}
	return l
}

func TestDrawnStepsAgainstAPlainJoiner(t *testing.T) {
	met := map[api.Errno]int{}
	for seed := range int64(400) {
		r := rand.New(rand.NewSource(seed))
		p := &plainJoiner{each: r.Intn(7), came: map[int][]uint64{}}
		for range r.Intn(12) {
			p.sizes = append(p.sizes, 1+r.Intn(6))
		}
		j := made(t, cut(p.sizes...), p.each)
		for range 100 {
			i, l := r.Intn(len(p.sizes)+4)-2, counted(r.Uint64(), r.Intn(20))
			if r.Intn(2) == 0 && i >= 0 && i < len(p.sizes) {
				l = counted(r.Uint64(), p.sizes[i]*p.each)
			}
			code, want := j.Add(i, l), p.add(i, l)
			if code != want {
				t.Fatalf("of seed %d: Add(%d) of %d numbers: the error %d, not %d", seed, i, len(l), code, want)
			}
			met[code]++
			if len(p.came) < len(p.sizes) {
				isNotWhole(t, j, len(p.sizes)-len(p.came))
			} else {
				isWhole(t, j, p.all())
			}
		}
	}
	for _, code := range []api.Errno{api.OK, api.ErrNone, api.ErrTwice, api.ErrShape} {
		if met[code] < 500 {
			t.Errorf("the error %d was met no more than %d times: the drawn steps say too little", code, met[code])
		}
	}
}

// Rules that hold everywhere: whose memory is whose, and what an answer hangs on.

func TestPlansAreNewMemory(t *testing.T) {
	plan, other := planned(t, 5, 600), planned(t, 5, 600)
	clear(plan[:cap(plan)])
	want := []stream.Chunk{{From: 5, Count: 512, Skip: 0}, {From: 517, Count: 88, Skip: 512}}
	if !slices.Equal(other, want) || !slices.Equal(planned(t, 5, 600), want) {
		t.Error("two plans share memory")
	}
}

// withSpare tells a list with room behind it that holds what must stay.
func withSpare[T any](l []T, spare T) []T {
	return append(slices.Clone(l), spare, spare, spare)[:len(l)]
}

func TestAPlanIsNeitherChangedNorKept(t *testing.T) {
	want := cut(2, 1, 3)
	spare := stream.Chunk{From: 9, Count: 9, Skip: 9}
	plan := withSpare(want, spare)
	j, other := made(t, plan, 2), made(t, plan, 1)
	isNotMade(t, plan, 7, api.ErrShape)
	isNotMade(t, plan[1:], 2, api.ErrArg)
	if !slices.Equal(plan, want) || plan[:4][3] != spare {
		t.Error("a plan that was handed in was changed")
	}
	clear(plan)
	for i, chunk := range want {
		takes(t, j, i, counted(uint64(2*chunk.Skip), 2*chunk.Count))
	}
	isWhole(t, j, counted(0, 12))
	isNotWhole(t, other, 3) // of one plan, and apart
}

func TestNumbersAreNeitherChangedNorKept(t *testing.T) {
	j := made(t, cut(2, 1), 2)
	first, second := withSpare([]uint64{1, 2, 3, 4}, 77), withSpare([]uint64{5, 6}, 78)
	takes(t, j, 0, first)
	takes(t, j, 1, second)
	takesNot(t, j, 0, first, api.ErrTwice)
	isWhole(t, j, counted(1, 6))
	if !slices.Equal(first[:7], []uint64{1, 2, 3, 4, 77, 77, 77}) || !slices.Equal(second[:5], []uint64{5, 6, 78, 78, 78}) {
		t.Error("numbers that were handed in were changed")
	}
	clear(first[:7])
	clear(second[:5])
	isWhole(t, j, counted(1, 6))
}

func TestAllIsNewMemory(t *testing.T) {
	for _, sizes := range [][]int{{3}, {2, 1}, {1, 1, 1}} { // of one chunk alone, too
		j := made(t, cut(sizes...), 2)
		at := uint64(1)
		for i, size := range sizes {
			takes(t, j, i, counted(at, 2*size))
			at += uint64(2 * size)
		}
		l, _ := j.All()
		other, _ := j.All()
		clear(l[:cap(l)])
		if !slices.Equal(other, counted(1, 6)) {
			t.Error("two answers share memory")
		}
		isWhole(t, j, counted(1, 6))
	}
}
