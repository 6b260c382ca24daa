package window_test

import (
	"math/rand"
	"slices"
	"strconv"
	"testing"
	"unsafe"

	"trefoil/api"
	"trefoil/window"
)

// plainOut is a second Out, slow and plain: all that was put, and how many of it have come.
type plainOut struct {
	base uint64
	all  []string
	come int
}

func (p *plainOut) put(body string) (uint32, api.Errno) {
	switch {
	case len(p.all)-p.come >= 16:
		return 0, api.ErrWindow
	case p.base+uint64(len(p.all))+1 > 1<<32-2:
		return 0, api.ErrCount
	}
	p.all = append(p.all, body)
	return uint32(p.base + uint64(len(p.all))), api.OK
}

func (p *plainOut) ack(n uint32) api.Errno {
	if n == 0 || uint64(n) > p.base+uint64(len(p.all))+1 {
		return api.ErrGap
	}
	for p.base+uint64(p.come)+1 < uint64(n) {
		p.come++
	}
	return api.OK
}

// plainIn is a second In, slow and plain: all that came, and how many of it were told.
type plainIn struct {
	all  map[uint32]string
	told uint32
}

func (p *plainIn) take(seq uint32, body string) ([]string, api.Errno) {
	_, came := p.all[seq]
	switch {
	case seq == 0 || came:
		return nil, api.ErrStale
	case uint64(seq) >= uint64(p.told)+17:
		return nil, api.ErrWindow
	}
	p.all[seq] = body
	var bodies []string
	for {
		next, ok := p.all[p.told+1]
		if !ok {
			return bodies, api.OK
		}
		p.told++
		bodies = append(bodies, next)
	}
}

func (p *plainIn) held() []window.Numbered {
	var l []window.Numbered
	for seq := p.told + 1; seq < p.told+100; seq++ { // far beyond the window
		if body, came := p.all[seq]; came {
			l = append(l, window.Numbered{Seq: seq, Body: body})
		}
	}
	return l
}

// drawText draws a body: now and then an empty one, now and then like another one.
func drawText(r *rand.Rand) string {
	l := make([]byte, r.Intn(5))
	for i := range l {
		l[i] = byte(r.Intn(256))
	}
	return string(l)
}

func TestDrawnStepsAgainstAPlainOut(t *testing.T) {
	met := map[api.Errno]int{}
	for seed := range int64(80) {
		r := rand.New(rand.NewSource(seed))
		base := uint32(r.Intn(40))
		if seed%2 == 0 {
			base = last - uint32(r.Intn(400))
		}
		o, p := window.From(base), &plainOut{base: uint64(base)}
		for range 600 {
			if r.Intn(3) > 0 {
				body := drawText(r)
				seq, code := o.Put(body)
				wantSeq, want := p.put(body)
				if seq != wantSeq || code != want {
					t.Fatalf("of seed %d: the number %d with the error %d, not %d with %d", seed, seq, code, wantSeq, want)
				}
				met[code]++
			} else {
				n := o.Next() + 2 - uint32(r.Intn(22))
				code, want := o.Ack(n), p.ack(n)
				if code != want {
					t.Fatalf("of seed %d: Ack(%d): the error %d, not %d", seed, n, code, want)
				}
				met[code]++
			}
			outIs(t, o, base+uint32(p.come)+1, p.all[p.come:]...)
		}
	}
	for _, code := range []api.Errno{api.OK, api.ErrWindow, api.ErrCount, api.ErrGap} {
		if met[code] < 100 {
			t.Errorf("the error %d was met no more than %d times: the drawn steps say too little", code, met[code])
		}
	}
}

func TestDrawnStepsAgainstAPlainIn(t *testing.T) {
	met := map[api.Errno]int{}
	for seed := range int64(80) {
		r := rand.New(rand.NewSource(seed))
		x, p := &window.In{}, &plainIn{all: map[uint32]string{}}
		for range 1500 {
			seq := x.Awaited() + uint32(r.Intn(24)) - 4
			if r.Intn(4) == 0 {
				seq = x.Awaited()
			}
			if r.Intn(100) == 0 {
				seq = r.Uint32()
			}
			body := drawText(r)
			got, code := x.Take(seq, body)
			bodies, want := p.take(seq, body)
			if code != want || !slices.Equal(got, bodies) {
				t.Fatalf("of seed %d: Take(%d): %q with the error %d, not %q with %d", seed, seq, got, code, bodies, want)
			}
			met[code]++
			inIs(t, x, p.told+1, p.held()...)
			if len(x.Held()) > 15 {
				t.Fatalf("of seed %d: %d are held", seed, len(x.Held()))
			}
		}
	}
	for _, code := range []api.Errno{api.OK, api.ErrStale, api.ErrWindow} {
		if met[code] < 100 {
			t.Errorf("the error %d was met no more than %d times: the drawn steps say too little", code, met[code])
		}
	}
}

// P13.4

// way is an Out, an In, and what is on its way between them, both to and fro.
type way struct {
	out   window.Out
	in    window.In
	to    []window.Numbered
	fro   []uint32
	put   []string
	told  []string
	stale int
}

// send puts a body, if there is room, and sends it.
func (w *way) send(t *testing.T, body string) {
	t.Helper()
	seq, code := w.out.Put(body)
	if code == api.ErrWindow {
		return
	}
	ok(t, code)
	w.put = append(w.put, body)
	w.to = append(w.to, window.Numbered{Seq: seq, Body: body})
}

// again sends all that aren't known to have come once more.
func (w *way) again() { w.to = append(w.to, w.out.Pending()...) }

// arrive lets a body arrive from a place, and sends what is awaited back. Of what an Out sent none is too far ahead.
func (w *way) arrive(t *testing.T, i int) {
	t.Helper()
	bodies, code := w.in.Take(w.to[i].Seq, w.to[i].Body)
	switch code {
	case api.OK:
		w.told = append(w.told, bodies...)
	case api.ErrStale:
		w.stale++
	default:
		t.Fatalf("the number %d, while %d is awaited: the error %d", w.to[i].Seq, w.in.Awaited(), code)
	}
	w.to = slices.Delete(w.to, i, i+1)
	w.fro = append(w.fro, w.in.Awaited())
}

// answer lets what is awaited arrive from a place. Of what an In awaited none is ahead of the Out.
func (w *way) answer(t *testing.T, i int) {
	t.Helper()
	ok(t, w.out.Ack(w.fro[i]))
	w.fro = slices.Delete(w.fro, i, i+1)
}

// step makes a drawn step: from the place drawn, something arrives, is lost, or is doubled.
func (w *way) step(t *testing.T, r *rand.Rand) {
	t.Helper()
	switch kind := r.Intn(10); {
	case kind < 3:
		w.send(t, "body "+strconv.Itoa(len(w.put)))
	case kind == 3 && len(w.to) < 100:
		w.again()
	case kind < 7 && len(w.to) > 0:
		i := r.Intn(len(w.to))
		switch r.Intn(6) {
		case 0:
			w.to = slices.Delete(w.to, i, i+1)
		case 1:
			w.to = append(w.to, w.to[i])
		default:
			w.arrive(t, i)
		}
	case len(w.fro) > 0:
		i := r.Intn(len(w.fro))
		switch r.Intn(6) {
		case 0:
			w.fro = slices.Delete(w.fro, i, i+1)
		case 1:
			w.fro = append(w.fro, w.fro[i])
		default:
			w.answer(t, i)
		}
	}
}

// check asks that what was told is what was put, up to somewhere, and that neither end knows too much.
func (w *way) check(t *testing.T) {
	t.Helper()
	if len(w.told) > len(w.put) || !slices.Equal(w.told, w.put[:len(w.told)]) {
		t.Fatalf("told is %q of %q", w.told, w.put)
	}
	if w.in.Awaited() != uint32(len(w.told)+1) || w.out.Next() != uint32(len(w.put)+1) {
		t.Fatalf("%d is awaited behind %d, and %d is next behind %d", w.in.Awaited(), len(w.told), w.out.Next(), len(w.put))
	}
	if pending := w.out.Pending(); len(w.put)-len(pending) > len(w.told) {
		t.Fatalf("%d of %d are pending, but only %d were told", len(pending), len(w.put), len(w.told))
	}
}

func TestWhateverComesIsToldOnceAndInOrder(t *testing.T) {
	told, stale := 0, 0
	for seed := range int64(100) {
		r := rand.New(rand.NewSource(seed))
		w := &way{}
		for range 1500 {
			w.step(t, r)
			w.check(t)
		}
		told, stale = told+len(w.told), stale+w.stale
		w.finish(t)
	}
	if told < 5000 || stale < 5000 {
		t.Errorf("%d were told, and %d were stale: the drawn steps say too little", told, stale)
	}
}

// finish loses all that is on its way; behind that all that is pending is sent once more, and comes.
func (w *way) finish(t *testing.T) {
	t.Helper()
	w.to, w.fro = nil, nil
	w.again()
	for len(w.to) > 0 {
		w.arrive(t, len(w.to)-1)
		w.check(t)
	}
	if !slices.Equal(w.told, w.put) {
		t.Fatalf("%d were told of %d", len(w.told), len(w.put))
	}
	ok(t, w.out.Ack(w.in.Awaited()))
	outIs(t, &w.out, uint32(len(w.put)+1))
	inIs(t, &w.in, uint32(len(w.put)+1))
}

// Each order in which five bodies may come, each of them once more at each place, comes to the same.
func TestEachOrderOfFive(t *testing.T) {
	all := texts(5)
	orders(5, func(order []int) {
		for doubled := range order {
			for at := doubled; at <= len(order); at++ {
				x := &window.In{}
				var told []string
				for _, i := range slices.Insert(slices.Clone(order), at, order[doubled]) {
					bodies, code := x.Take(uint32(i+1), all[i])
					if code != api.OK && code != api.ErrStale {
						t.Fatalf("the error %d", code)
					}
					told = append(told, bodies...)
				}
				if !slices.Equal(told, all) {
					t.Fatalf("of the order %v with %d once more at %d: %q", order, order[doubled], at, told)
				}
				inIs(t, x, 6)
			}
		}
	})
}

// orders calls with each order of so many numbers.
func orders(count int, call func(order []int)) {
	var grow func(order []int)
	grow = func(order []int) {
		if len(order) == count {
			call(order)
			return
		}
		for i := range count {
			if !slices.Contains(order, i) {
				grow(append(slices.Clone(order), i))
			}
		}
	}
	grow(nil)
}

// Rules that hold everywhere: memory, and from arguments alone

// text makes a text of bytes that may be changed behind its back.
func text(b []byte) string { return unsafe.String(unsafe.SliceData(b), len(b)) }

func TestWhatIsHandedInIsNotKept(t *testing.T) {
	b := []byte("sent")
	o := &window.Out{}
	put(t, o, 1, text(b))
	copy(b, "xxxx")
	outIs(t, o, 1, "sent")

	ahead, first := []byte("ahead"), []byte("first")
	x := &window.In{}
	tells(t, x, 2, text(ahead))
	copy(ahead, "xxxxx")
	inIs(t, x, 1, list(2, "ahead")...)
	told, code := x.Take(1, text(first))
	ok(t, code)
	copy(first, "xxxxx")
	if !slices.Equal(told, []string{"first", "ahead"}) {
		t.Errorf("told is %q", told)
	}
}

// apart asks that no two texts lie in one memory.
func apart(t *testing.T, texts ...string) {
	t.Helper()
	for i, a := range texts {
		for _, b := range texts[:i] {
			if unsafe.StringData(a) == unsafe.StringData(b) {
				t.Fatalf("two of %q share memory", texts)
			}
		}
	}
}

func TestAnswersAreNewMemory(t *testing.T) {
	body := "a body of some length"
	o, x := &window.Out{}, &window.In{}
	put(t, o, 1, body, body)
	tells(t, x, 2, body)
	tells(t, x, 3, body)
	all := []string{body}
	for range 2 {
		for _, n := range append(o.Pending(), x.Held()...) {
			all = append(all, n.Body)
		}
	}
	told, code := x.Take(1, body)
	ok(t, code)
	apart(t, append(all, told...)...)
}

func TestChangedAnswersLeaveTheWindow(t *testing.T) {
	o, x := &window.Out{}, &window.In{}
	put(t, o, 1, "a", "b", "c")
	tells(t, x, 2, "b")
	tells(t, x, 4, "d")
	for _, l := range [][]window.Numbered{o.Pending(), x.Held()} {
		for i := range l {
			l[i] = window.Numbered{Seq: 99, Body: "changed"}
		}
		_ = append(l, window.Numbered{Seq: 98, Body: "more"})
	}
	outIs(t, o, 1, "a", "b", "c")
	inIs(t, x, 1, window.Numbered{Seq: 2, Body: "b"}, window.Numbered{Seq: 4, Body: "d"})
	told, code := x.Take(1, "a")
	ok(t, code)
	told[0], told[1] = "changed", "changed"
	_ = append(told, "more")
	inIs(t, x, 3, list(4, "d")...)
	tells(t, x, 3, "c", "c", "d")
}

func TestLaterStepsLeaveAnswers(t *testing.T) {
	o, x := &window.Out{}, &window.In{}
	put(t, o, 1, "a", "b", "c")
	tells(t, x, 2, "b")
	tells(t, x, 3, "c")
	pending, held := o.Pending(), x.Held()
	ok(t, o.Ack(3))
	put(t, o, 4, "d", "e", "f")
	told, code := x.Take(1, "a")
	ok(t, code)
	tells(t, x, 5, "e")
	tells(t, x, 4, "d", "d", "e")
	if !slices.Equal(pending, list(1, "a", "b", "c")) || !slices.Equal(held, list(2, "b", "c")) || !slices.Equal(told, []string{"a", "b", "c"}) {
		t.Errorf("%v, %v, %q", pending, held, told)
	}
}

func TestTheSameStepsComeToTheSame(t *testing.T) {
	run := func() ([]string, []window.Numbered) {
		r := rand.New(rand.NewSource(5))
		w := &way{}
		for range 700 {
			w.step(t, r)
		}
		return w.told, append(w.out.Pending(), w.in.Held()...)
	}
	told, left := run()
	for range 5 {
		toldAgain, leftAgain := run()
		if !slices.Equal(told, toldAgain) || !slices.Equal(left, leftAgain) {
			t.Fatal("the same steps came to something else")
		}
	}
}
