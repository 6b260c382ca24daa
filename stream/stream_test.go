package stream_test

import (
	"math"
	"slices"
	"testing"

	"trefoil/api"
	"trefoil/stream"
)

const top = 67108864 // 2^26, written anew

// wrongSizes are counts of transfers that may not be.
func wrongSizes() []int {
	return []int{-1, -2, -511, -512, -4096, -1 << 26, math.MinInt32, math.MinInt64, math.MinInt64 + 1,
		4097, 4098, 4608, 8192, 1 << 16, 1 << 26, 1<<26 + 1, math.MaxInt32, 1 << 32, 1<<32 + 5, math.MaxInt64 - 1, math.MaxInt64}
}

// wrongEnds are numbers from which not even no transfers may go on.
func wrongEnds() []uint64 {
	return []uint64{top + 1, top + 512, 2 * top, 1 << 32, 1<<32 + 1, 1 << 63, math.MaxUint64 - 4096, math.MaxUint64 - 511, math.MaxUint64 - 1, math.MaxUint64}
}

// planned makes a plan that may be.
func planned(t *testing.T, from uint64, n int) []stream.Chunk {
	t.Helper()
	plan, code := stream.Plan(from, n)
	if code != api.OK {
		t.Fatalf("Plan(%d, %d): the error %d", from, n, code)
	}
	return plan
}

// isNotPlanned asks for an error of Plan, beside which there is nothing.
func isNotPlanned(t *testing.T, from uint64, n int, want api.Errno) {
	t.Helper()
	if plan, code := stream.Plan(from, n); code != want || len(plan) != 0 {
		t.Errorf("Plan(%d, %d): %v with the error %d, not %d", from, n, plan, code, want)
	}
}

func TestTop(t *testing.T) {
	if stream.Top != top {
		t.Errorf("Top is %d", stream.Top)
	}
}

// P20.1

func TestKnownPlans(t *testing.T) {
	for _, c := range []struct {
		from uint64
		n    int
		want []stream.Chunk
	}{
		{5, 600, []stream.Chunk{{From: 5, Count: 512, Skip: 0}, {From: 517, Count: 88, Skip: 512}}}, // the chapter's example
		{0, 0, nil},
		{9, 0, nil},
		{top, 0, nil},
		{0, 1, []stream.Chunk{{From: 0, Count: 1, Skip: 0}}},
		{7, 1, []stream.Chunk{{From: 7, Count: 1, Skip: 0}}},
		{top - 1, 1, []stream.Chunk{{From: top - 1, Count: 1, Skip: 0}}},
		{0, 511, []stream.Chunk{{From: 0, Count: 511, Skip: 0}}},
		{100, 512, []stream.Chunk{{From: 100, Count: 512, Skip: 0}}},
		{100, 513, []stream.Chunk{{From: 100, Count: 512, Skip: 0}, {From: 612, Count: 1, Skip: 512}}},
		{511, 1023, []stream.Chunk{{From: 511, Count: 512, Skip: 0}, {From: 1023, Count: 511, Skip: 512}}},
		{0, 1024, []stream.Chunk{{From: 0, Count: 512, Skip: 0}, {From: 512, Count: 512, Skip: 512}}},
		{3, 1025, []stream.Chunk{{From: 3, Count: 512, Skip: 0}, {From: 515, Count: 512, Skip: 512}, {From: 1027, Count: 1, Skip: 1024}}},
		{top - 4095, 4095, []stream.Chunk{
			{From: 67104769, Count: 512, Skip: 0}, {From: 67105281, Count: 512, Skip: 512},
			{From: 67105793, Count: 512, Skip: 1024}, {From: 67106305, Count: 512, Skip: 1536},
			{From: 67106817, Count: 512, Skip: 2048}, {From: 67107329, Count: 512, Skip: 2560},
			{From: 67107841, Count: 512, Skip: 3072}, {From: 67108353, Count: 511, Skip: 3584}}},
		{top - 4096, 4096, []stream.Chunk{
			{From: 67104768, Count: 512, Skip: 0}, {From: 67105280, Count: 512, Skip: 512},
			{From: 67105792, Count: 512, Skip: 1024}, {From: 67106304, Count: 512, Skip: 1536},
			{From: 67106816, Count: 512, Skip: 2048}, {From: 67107328, Count: 512, Skip: 2560},
			{From: 67107840, Count: 512, Skip: 3072}, {From: 67108352, Count: 512, Skip: 3584}}},
	} {
		if plan := planned(t, c.from, c.n); !slices.Equal(plan, c.want) {
			t.Errorf("Plan(%d, %d): %v, not %v", c.from, c.n, plan, c.want)
		}
	}
}

// All chunks but the last one are whole, and the last one is what is left.
func TestPlansOfAllSizes(t *testing.T) {
	for n := range 4097 {
		for _, from := range []uint64{0, 1, 511, 512, 5000, 1 << 25, top - 4096, uint64(top - n)} {
			plan := planned(t, from, n)
			if len(plan) != (n+511)/512 {
				t.Fatalf("Plan(%d, %d) has %d chunks", from, n, len(plan))
			}
			for i, chunk := range plan {
				want := stream.Chunk{From: from + uint64(512*i), Count: 512, Skip: 512 * i}
				if i == len(plan)-1 {
					want.Count = n - 512*i
				}
				if chunk != want {
					t.Fatalf("the chunk %d of Plan(%d, %d) is %v, not %v", i, from, n, chunk, want)
				}
			}
		}
	}
}

func TestPlansOfWrongSizes(t *testing.T) {
	for _, n := range wrongSizes() {
		for _, from := range append(wrongEnds(), 0, 1, 5, 512, top-4097, top-1, top) { // the size is asked first
			isNotPlanned(t, from, n, api.ErrLimit)
		}
	}
}

func TestPlansBeyondTop(t *testing.T) {
	for n := range 4097 {
		for _, from := range append(wrongEnds(), uint64(top-n+1), uint64(top-n+2), uint64(top-n+512)) {
			isNotPlanned(t, from, n, api.ErrCount)
		}
		if n > 0 {
			isNotPlanned(t, top, n, api.ErrCount)
			isNotPlanned(t, -uint64(n), n, api.ErrCount) // both come to 2^64
		}
		if n > 1 {
			isNotPlanned(t, 1-uint64(n), n, api.ErrCount) // and here to 1 more
		}
	}
}

// P20.2

// gives asks a counter for so many numbers, and for the first one of them.
func gives(t *testing.T, c *stream.Counter, n int, first uint64) {
	t.Helper()
	if got, code := c.Reserve(n); got != first || code != api.OK {
		t.Fatalf("Reserve(%d): %d with the error %d, not %d", n, got, code, first)
	}
	isNext(t, c, first+uint64(n))
}

// givesNone asks for an error of Reserve, beside which nothing is told, and behind which nothing has changed.
func givesNone(t *testing.T, c *stream.Counter, n int, want api.Errno) {
	t.Helper()
	next := c.Next()
	if got, code := c.Reserve(n); got != 0 || code != want {
		t.Fatalf("Reserve(%d): %d with the error %d, not %d", n, got, code, want)
	}
	isNext(t, c, next)
}

func isNext(t *testing.T, c *stream.Counter, want uint64) {
	t.Helper()
	if got := c.Next(); got != want {
		t.Fatalf("the next number is %d, not %d", got, want)
	}
}

// countedTo makes a counter that has given so many numbers.
func countedTo(t *testing.T, n int) *stream.Counter {
	t.Helper()
	c := &stream.Counter{}
	for n > 0 {
		part := min(n, 4096)
		if _, code := c.Reserve(part); code != api.OK {
			t.Fatalf("with %d left to count, the error %d", n, code)
		}
		n -= part
	}
	return c
}

func TestCounter(t *testing.T) {
	var c stream.Counter
	isNext(t, &c, 0)
	gives(t, &c, 0, 0)
	gives(t, &c, 10, 0)
	gives(t, &c, 5, 10)
	gives(t, &c, 0, 15) // of 0 the next one is told
	gives(t, &c, 0, 15)
	gives(t, &c, 1, 15)
	gives(t, &c, 4096, 16)
	gives(t, &c, 4095, 4112)
	gives(t, &c, 513, 8207)
	isNext(t, &c, 8720)
	isNext(t, &c, 8720)
}

func TestCounterOfWrongSizes(t *testing.T) {
	for _, start := range []int{0, 1, 600, top - 1, top} {
		c := countedTo(t, start)
		for _, n := range wrongSizes() {
			givesNone(t, c, n, api.ErrLimit) // ahead of ErrCount
		}
		gives(t, c, 0, uint64(start))
	}
}

// All numbers below Top are given, and none from there on.
func TestCounterAtTop(t *testing.T) {
	for _, left := range []int{0, 1, 2, 511, 512, 513, 4094, 4095, 4096} {
		c := countedTo(t, top-left)
		for n := left + 1; n <= 4096; n++ {
			givesNone(t, c, n, api.ErrCount)
		}
		gives(t, c, 0, uint64(top-left))
		gives(t, c, left, uint64(top-left))
		gives(t, c, 0, top)
		for n := 1; n <= 4096; n++ {
			givesNone(t, c, n, api.ErrCount)
		}
	}
	c := countedTo(t, top-4097)
	gives(t, c, 4096, top-4097)
	givesNone(t, c, 2, api.ErrCount)
	gives(t, c, 1, top-1)
}

func TestCounterOfNil(t *testing.T) {
	var c *stream.Counter
	for _, n := range append(wrongSizes(), 0, 1, 512, 4096) {
		if got, code := c.Reserve(n); got != 0 || code != api.ErrNil {
			t.Errorf("of nil Reserve(%d): %d with the error %d", n, got, code)
		}
	}
	if got := c.Next(); got != 0 {
		t.Errorf("of nil the next number is %d", got)
	}
}

// What one counter gives is nothing to another one, nor to a plan.
func TestCountersAreApart(t *testing.T) {
	var a, b stream.Counter
	gives(t, &a, 100, 0)
	isNext(t, &b, 0)
	gives(t, &b, 7, 0)
	planned(t, 100, 50)
	gives(t, &a, 1, 100)
	copied := a // a value of its own
	gives(t, &a, 3, 101)
	gives(t, &copied, 9, 101)
	isNext(t, &a, 104)
}
