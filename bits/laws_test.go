package bits_test

import (
	"reflect"
	"slices"
	"testing"

	"trefoil/api"
	"trefoil/bits"
)

// P2.6

func TestThereAndBack(t *testing.T) {
	for _, n := range append(slices.Clone(sizes), most-1, most) {
		for _, l := range samples(n) {
			v := must(t, l)
			if w, code := bits.Read(v.Len(), v.Bytes()); code != api.OK || !bits.Equal(v, w) {
				t.Errorf("Read of Bytes of %d bits: %d", n, code)
			}
			if w, code := bits.Words(v.Len(), v.Raw()); code != api.OK || !bits.Equal(v, w) {
				t.Errorf("Words of Raw of %d bits: %d", n, code)
			}
			if w, code := bits.Of(v.Bools()); code != api.OK || !bits.Equal(v, w) {
				t.Errorf("Of of Bools of %d bits: %d", n, code)
			}
		}
	}
}

func TestPartsJoinedAreTheWhole(t *testing.T) {
	for _, n := range sizes {
		v := must(t, truths(n, 12))
		for from := 0; from <= n; from += 1 + n/40 {
			for to := from; to <= n; to += 1 + n/40 {
				a, _ := v.Part(0, from)
				b, _ := v.Part(from, to)
				c, _ := v.Part(to, n)
				if w, code := bits.Join(a, b, c); code != api.OK || !bits.Equal(v, w) {
					t.Fatalf("%d bits, cut at %d and %d: %d", n, from, to, code)
				}
			}
		}
	}
}

func TestLawsOfXorAndAnd(t *testing.T) {
	for _, n := range append(slices.Clone(sizes), most) {
		a, b, c := must(t, truths(n, 13)), must(t, truths(n, 14)), must(t, truths(n, 15))
		x, _ := bits.Xor(a, b)
		if back, code := bits.Xor(x, b); code != api.OK || !bits.Equal(back, a) {
			t.Errorf("Xor twice of %d bits isn't what was", n)
		}
		if x.Odd() != (a.Odd() != b.Odd()) {
			t.Errorf("Xor of %d bits: Odd is %v, of the two %v and %v", n, x.Odd(), a.Odd(), b.Odd())
		}
		left, _ := bits.And(x, c)
		ac, _ := bits.And(a, c)
		bc, _ := bits.And(b, c)
		if right, code := bits.Xor(ac, bc); code != api.OK || !bits.Equal(left, right) {
			t.Errorf("And of %d bits isn't spread over Xor", n)
		}
		if !bits.Equal(a.Not().Not(), a) || a.Count()+a.Not().Count() != n {
			t.Errorf("Not of %d bits", n)
		}
	}
}

// Rules that hold everywhere: what the zero value answers, and whose memory is whose.

func TestZeroValue(t *testing.T) {
	var v bits.Vec
	same(t, "the zero value", v, api.OK, nil)
	same(t, "its Not", v.Not(), api.OK, nil)
	made, _ := bits.New(0)
	if !bits.Equal(v, made) || !bits.Equal(made, v) || !reflect.DeepEqual(v, made) {
		t.Error("the zero value isn't New of no bits")
	}
	w, code := bits.Xor(v, made)
	same(t, "its Xor", w, code, nil)
	w, code = bits.And(made, v)
	same(t, "its And", w, code, nil)
	w, code = v.Part(0, 0)
	same(t, "its Part", w, code, nil)
	w, code = bits.Join(must(t, []bool{true}), v, must(t, []bool{true}))
	same(t, "Join with it", w, code, []bool{true, true})
	w, code = v.With(0, true)
	refused(t, "its With", w, code, api.ErrArg)
	w, code = bits.Read(0, "")
	same(t, "Read of nothing", w, code, nil)
}

func TestArgumentsAreNotKept(t *testing.T) {
	for _, n := range []int{1, 63, 64, 65, 200} {
		want := truths(n, 16)
		l := slices.Clone(want)
		of := must(t, l)
		for i := range l {
			l[i] = !l[i]
		}
		same(t, "Of truths that changed", of, api.OK, want)
		words := packWords(want)
		v, code := bits.Words(n, words)
		for i := range words {
			words[i] = ^words[i]
		}
		same(t, "Words that changed", v, code, want)
		vecs := []bits.Vec{of, of}
		joined, code := bits.Join(vecs...)
		vecs[0], vecs[1] = bits.Vec{}, of.Not()
		same(t, "Join of Vecs that changed", joined, code, slices.Concat(want, want))
	}
}

func TestArgumentsAreNotChanged(t *testing.T) {
	for _, n := range []int{1, 63, 64, 65, 200} {
		want := truths(n, 17)
		l := append(slices.Clone(want), true, true, true)
		must(t, l[:n])
		if !slices.Equal(l[:n], want) || !l[n] || !l[n+1] || !l[n+2] {
			t.Error("Of changed its truths, or the room behind them")
		}
		need := (n + 63) / 64
		words := slices.Repeat([]uint64{1<<64 - 1}, need+2)
		bits.Words(n, words[:need])
		if !slices.Equal(words, slices.Repeat([]uint64{1<<64 - 1}, need+2)) {
			t.Error("Words changed its words, or the room behind them")
		}
		a, b := must(t, want), must(t, truths(n, 18))
		vecs := []bits.Vec{a, b, a.Not()}
		bits.Join(vecs[:2]...)
		same(t, "what is behind those joined", vecs[2], api.OK, a.Not().Bools())
		bits.Xor(a, b)
		bits.And(a, b)
		a.Part(0, n-1)
		a.With(0, !a.Get(0))
		same(t, "the first argument", vecs[0], api.OK, want)
		same(t, "the second argument", vecs[1], api.OK, truths(n, 18))
	}
}

func TestAnswersAreNewMemory(t *testing.T) {
	for _, n := range []int{1, 63, 64, 65, 200} {
		want := truths(n, 19)
		v := must(t, want)
		for _, l := range [][]uint64{v.Raw(), v.Raw()} {
			for i := range l {
				l[i] = ^l[i]
			}
			for i := range l[:cap(l)] {
				l[:cap(l)][i] = 0
			}
		}
		l := v.Bools()
		for i := range l {
			l[i] = !l[i]
		}
		same(t, "a Vec whose answers were written to", v, api.OK, want)
	}
}
