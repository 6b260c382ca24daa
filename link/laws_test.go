package link_test

import (
	"fmt"
	"math/rand"
	"slices"
	"testing"
	"unsafe"

	"trefoil/api"
	"trefoil/fault"
	"trefoil/frame"
	"trefoil/link"
)

// plainEnd is a second end, slow and plain, in the chapter's words.
type plainEnd struct {
	own, peer  uint32
	sure, owed bool
	sent       []string // all that was moved since the other one's start
	come       int      // how many of them have come
	wait       []string
	came       map[uint32]string // all that came since the other one's start
	told       uint32
}

func (p *plainEnd) send(body string) api.Errno {
	switch {
	case !p.sure:
		return 8
	case len(body) > 65536:
		return 2
	case len(p.wait) == 64:
		return 16
	}
	p.wait = append(p.wait, body)
	return 0
}

// body is the frame of the n-th body, from 0 on.
func (p *plainEnd) body(n int) string {
	return data(p.own, p.peer, uint32(n+1), p.told+1, p.sent[n])
}

func (p *plainEnd) plain() string {
	if p.sure {
		return quiet(p.own, p.peer, p.told+1)
	}
	return hello(p.own, p.peer)
}

// frames tells the frames from the n-th body on, all that wait moved as long as there is room.
func (p *plainEnd) frames(n int) []string {
	for p.sure && len(p.wait) > 0 && len(p.sent)-p.come < 16 {
		p.sent, p.wait = append(p.sent, p.wait[0]), p.wait[1:]
	}
	var l []string
	for ; n < len(p.sent); n++ {
		l = append(l, p.body(n))
	}
	return l
}

func (p *plainEnd) flush() []string {
	l := p.frames(len(p.sent))
	if len(l) == 0 && p.owed {
		l = append(l, p.plain())
	}
	p.owed = false
	return l
}

func (p *plainEnd) tick() []string {
	l := p.frames(p.come)
	if len(l) == 0 || !p.sure {
		l = append(l, p.plain())
	}
	p.owed = false
	return l
}

func (p *plainEnd) receive(s string) (bodies []string, anew bool, code api.Errno) {
	f, err := frame.Decode(s)
	if err != nil {
		return nil, false, fault.Code(err)
	}
	if f.Own < p.peer {
		p.owed = true
		return nil, false, 21
	}
	if f.Own > p.peer {
		anew = p.peer != 0
		*p = plainEnd{own: p.own, peer: f.Own, owed: true, came: map[uint32]string{}}
	}
	if f.Peer != p.own {
		p.owed = true
		if f.Kind == 1 {
			return nil, anew, 0
		}
		return nil, anew, 21
	}
	p.sure = true
	if f.Kind != 3 {
		p.owed = true
	}
	if f.Kind == 1 {
		return nil, anew, 0
	}
	if f.Ack == 0 || int(f.Ack) > len(p.sent)+1 {
		return nil, anew, 22
	}
	p.come = max(p.come, int(f.Ack)-1)
	if f.Kind == 3 {
		return nil, anew, 0
	}
	bodies, code = p.take(f.Seq, f.Body)
	return bodies, anew, code
}

func (p *plainEnd) take(seq uint32, body string) ([]string, api.Errno) {
	if _, came := p.came[seq]; came {
		return nil, 21
	}
	if uint64(seq) >= uint64(p.told)+17 {
		return nil, 23
	}
	p.came[seq] = body
	var bodies []string
	for {
		next, ok := p.came[p.told+1]
		if !ok {
			return bodies, 0
		}
		p.told++
		bodies = append(bodies, next)
	}
}

// near draws a number that is mostly the one, now and then close by, and seldom any.
func near(r *rand.Rand, x uint32, usual int) uint32 {
	switch {
	case r.Intn(100) < usual:
		return x
	case r.Intn(20) == 0:
		return r.Uint32()
	}
	return x + uint32(r.Intn(7)) - 3
}

// drawFrame draws a frame that an end may get, sent by whomever.
func drawFrame(r *rand.Rand, p *plainEnd) string {
	own, peer := p.peer, p.own
	switch r.Intn(60) {
	case 0:
		own += uint32(r.Intn(3)) // seldom, as each later start ends all that was begun
	case 1, 2:
		own -= uint32(r.Intn(3))
	case 3, 4:
		peer = near(r, peer, 0)
	}
	ack := near(r, uint32(p.come+1+r.Intn(len(p.sent)-p.come+1)), 90)
	switch r.Intn(8) {
	case 0:
		return hello(own, peer)
	case 1, 2:
		return quiet(own, peer, ack)
	case 3:
		return spoil(r, data(own, peer, p.told+1, ack, drawText(r)))
	}
	return data(own, peer, near(r, p.told+1+uint32(r.Intn(4)), 80), ack, drawText(r))
}

// spoil changes bytes at some place, or cuts some off.
func spoil(r *rand.Rand, s string) string {
	if r.Intn(2) == 0 {
		return s[:r.Intn(len(s)+1)]
	}
	b := []byte(s)
	at := r.Intn(len(b))
	if at >= 1 && at <= 3 {
		at = 0 // not a start that is far above all others
	}
	b[at] = byte(r.Intn(5))
	return string(b)
}

func drawText(r *rand.Rand) string {
	l := make([]byte, r.Intn(5))
	r.Read(l)
	return string(l)
}

// sendBoth lets a drawn body wait at both ends.
func sendBoth(t *testing.T, r *rand.Rand, l *link.Link, p *plainEnd) api.Errno {
	t.Helper()
	body := drawText(r)
	if r.Intn(100) == 0 {
		body = longBody
	}
	want := p.send(body)
	refuses(t, l, body, want)
	return want
}

func TestDrawnStepsAgainstAPlainEnd(t *testing.T) {
	met, anews, bodies := map[api.Errno]int{}, 0, 0
	for seed := range int64(150) {
		r := rand.New(rand.NewSource(seed))
		own := uint32(4 + r.Intn(5))
		l, p := made(t, own), &plainEnd{own: own, came: map[uint32]string{}}
		for range 1500 {
			switch k := r.Intn(12); {
			case k < 4:
				for range 1 + r.Intn(20)/18*r.Intn(60) { // now and then many at once, so that too many wait
					met[sendBoth(t, r, l, p)]++
				}
			case k < 6:
				areFrames(t, l.Flush(), p.flush())
			case k == 6:
				areFrames(t, l.Tick(), p.tick())
			default:
				s := drawFrame(r, p)
				told, anew, want := p.receive(s)
				brings(t, l, s, told, anew, want)
				met[want]++
				bodies += len(told)
				if anew {
					anews++
				}
			}
			room := 0
			if p.sure {
				room = 64 - len(p.wait)
			}
			is(t, l, p.own, p.peer, p.sure, room, len(p.wait)+len(p.sent)-p.come)
		}
	}
	for _, code := range []api.Errno{api.OK, api.ErrState, api.ErrLimit, api.ErrFull, api.ErrShort, api.ErrKind, api.ErrForm, api.ErrEpoch, api.ErrStale, api.ErrGap, api.ErrWindow} {
		if met[code] < 100 {
			t.Errorf("the error %d was met no more than %d times: the drawn steps say too little", code, met[code])
		}
	}
	if anews < 100 || bodies < 5000 {
		t.Errorf("%d starts anew, %d bodies: the drawn steps say too little", anews, bodies)
	}
}

// P14.5

// pair is a start of who sends, and one of who gets.
type pair struct{ from, to uint32 }

// world is two ends, what is on its way to either, and what each sent and was told, under both starts.
type world struct {
	ends       [2]*link.Link
	way        [2][]string
	sent, told [2]map[pair][]string // by who sent it
	count      int
	anews      int
	stales     int
}

func newWorld(t *testing.T) *world {
	t.Helper()
	w := &world{}
	for who := range 2 {
		w.ends[who] = made(t, 1)
		w.sent[who], w.told[who] = map[pair][]string{}, map[pair][]string{}
	}
	return w
}

// pairOf tells both starts, as one end knows them, that of who sends first.
func (w *world) pairOf(who int) pair { return pair{w.ends[who].Own(), w.ends[who].Peer()} }

// send lets a body wait, if that may be, that is unlike all others.
func (w *world) send(t *testing.T, who int) {
	t.Helper()
	w.count++
	body := fmt.Sprint("body ", w.count)
	err := w.ends[who].Send(body)
	switch code := fault.Code(err); {
	case code == api.OK:
		p := w.pairOf(who)
		w.sent[who][p] = append(w.sent[who][p], body)
	case code != api.ErrFull && code != api.ErrState:
		t.Fatalf("Send: %v", err)
	}
}

func (w *world) flush(who int) { w.way[1-who] = append(w.way[1-who], w.ends[who].Flush()...) }
func (w *world) tick(who int)  { w.way[1-who] = append(w.way[1-who], w.ends[who].Tick()...) }

// arrive lets what is on its way at a place arrive. Of what was not forged nothing is wrong but that it is stale.
func (w *world) arrive(t *testing.T, who, i int) {
	t.Helper()
	s := w.way[who][i]
	w.way[who] = slices.Delete(w.way[who], i, i+1)
	end := w.ends[who]
	known := end.Peer()
	got, err := end.Receive(s)
	if code := fault.Code(err); code == api.ErrStale {
		w.stales++
	} else if code != api.OK {
		t.Fatalf("Receive of %q: %v", s, err)
	}
	if got.Anew != (known != 0 && known != end.Peer()) || end.Peer() < known {
		t.Fatalf("anew is %v behind the starts %d, %d", got.Anew, known, end.Peer())
	}
	if got.Anew {
		w.anews++
	}
	p := pair{end.Peer(), end.Own()}
	told := append(w.told[1-who][p], got.Bodies...)
	w.told[1-who][p] = told
	if sent := w.sent[1-who][p]; len(told) > len(sent) || !slices.Equal(told, sent[:len(told)]) {
		t.Fatalf("between the starts %v came %q, where %q was sent", p, told, sent)
	}
}

// crash lets a party start anew; what is on its way stays so.
func (w *world) crash(t *testing.T, r *rand.Rand, who int) {
	t.Helper()
	w.ends[who] = made(t, w.ends[who].Own()+1+uint32(r.Intn(2)))
}

// step makes a drawn step.
func (w *world) step(t *testing.T, r *rand.Rand, crashes int) {
	t.Helper()
	who := r.Intn(2)
	way := w.way[who]
	switch k := r.Intn(20); {
	case k < 5:
		w.send(t, who)
	case k < 8:
		w.flush(who)
	case k == 8 && len(w.way[1-who]) < 60:
		w.tick(who)
	case r.Intn(1000) < crashes:
		w.crash(t, r, who)
	case len(way) == 0:
	case k == 9:
		i := r.Intn(len(way))
		w.way[who] = slices.Delete(way, i, i+1)
	case k == 10:
		w.way[who] = append(way, way[r.Intn(len(way))])
	case k < 15:
		w.arrive(t, who, 0)
	default:
		w.arrive(t, who, r.Intn(len(way)))
	}
}

// deliver lets frames arrive in order, each but those that lost says, till none are on their way to either.
func (w *world) deliver(t *testing.T, flush bool, lost func() bool) {
	t.Helper()
	count := 0
	for len(w.way[0])+len(w.way[1]) > 0 {
		for who := range 2 {
			for ; len(w.way[who]) > 0; count++ {
				if count > 2000 {
					t.Fatal("the answers don't end")
				}
				if lost() {
					w.way[who] = slices.Delete(w.way[who], 0, 1)
					continue
				}
				w.arrive(t, who, 0)
				if flush {
					w.flush(who)
				}
			}
		}
	}
}

// isDone asks whether both ends are sure of each other's starts, and all that was sent between them came, and is known to have.
func (w *world) isDone() bool {
	for who := range 2 {
		p := w.pairOf(who)
		if !w.ends[who].Ready() || w.ends[who].Waiting() > 0 || p.to != w.ends[1-who].Own() || !slices.Equal(w.told[who][p], w.sent[who][p]) {
			return false
		}
	}
	return true
}

// finish lets both tick and frames arrive, at most so many rounds, till all is done.
func (w *world) finish(t *testing.T, rounds int, flush bool, lost func() bool) {
	t.Helper()
	for range rounds {
		w.tick(0)
		w.tick(1)
		w.deliver(t, flush, lost)
		if w.isDone() {
			return
		}
	}
	t.Fatalf("behind %d rounds all is not done: %v, %v, %d and %d wait", rounds, w.pairOf(0), w.pairOf(1), w.ends[0].Waiting(), w.ends[1].Waiting())
}

func never() bool { return false }

func TestWhateverIsLostAllComesOnceAndInOrder(t *testing.T) {
	told, stales, anews := 0, 0, 0
	for seed := range int64(200) {
		r := rand.New(rand.NewSource(seed))
		w := newWorld(t)
		for range 2000 {
			w.step(t, r, int(seed%4)*5)
		}
		for who := range 2 {
			for _, l := range w.told[who] {
				told += len(l)
			}
		}
		anews, stales = anews+w.anews, stales+w.stales
		flush := seed%2 == 0
		if seed%3 == 0 {
			w.finish(t, 400, flush, func() bool { return r.Intn(3) > 0 })
		} else {
			w.finish(t, 15, flush, never)
		}
	}
	if told < 10000 || stales < 10000 || anews < 1000 {
		t.Errorf("%d came, %d were stale, %d starts anew: the drawn steps say too little", told, stales, anews)
	}
}

// pump lets both ends be ready.
func (w *world) pump(t *testing.T) {
	t.Helper()
	w.finish(t, 3, true, never)
}

// Two ends that sent each other as much as they may, of which all came, and that hear nothing but the same again, know so behind ticks alone.
func TestTicksAloneAreEnough(t *testing.T) {
	w := newWorld(t)
	w.pump(t)
	for range 40 {
		w.send(t, 0)
		w.send(t, 1)
	}
	w.flush(0)
	w.flush(1)
	w.deliver(t, false, never) // all came, but none is known to have: what went out crossed
	w.finish(t, 5, false, never)
}

// Where one alone sends, its frames are answered by ticks, and by flushes.
func TestOneAloneSends(t *testing.T) {
	for _, flush := range []bool{false, true} {
		w := newWorld(t)
		w.pump(t)
		for range 64 {
			w.send(t, 0)
		}
		w.flush(0)
		for range 16 {
			w.send(t, 0)
		}
		w.finish(t, 12, flush, never)
	}
}

// Answers end: behind the last frame that brings something there are no more.
func TestAnswersEnd(t *testing.T) {
	w := newWorld(t)
	w.tick(0)
	for frames := 0; len(w.way[0])+len(w.way[1]) > 0; frames++ {
		who := 0
		if len(w.way[0]) == 0 {
			who = 1
		}
		w.arrive(t, who, 0)
		w.flush(who)
		if frames > 10 {
			t.Fatal("the answers don't end")
		}
	}
	if !w.isDone() {
		t.Error("both aren't ready")
	}
}

// What is on its way from, or to, an earlier start brings nothing to a later one, in whatever order starts and frames come.
func TestNothingOfAnEarlierStartComes(t *testing.T) {
	w := newWorld(t)
	w.pump(t)
	for range 5 {
		w.send(t, 0)
		w.send(t, 1)
	}
	w.tick(0)
	w.tick(1)
	late := w.way
	r := rand.New(rand.NewSource(1))
	for who := range 2 {
		w.way = [2][]string{}
		w.crash(t, r, who)
		for to := range 2 {
			w.way[to] = slices.Clone(late[to])
		}
		w.deliver(t, true, never) // arrive asks what comes
		w.pump(t)
		for to := range 2 {
			w.way[to] = slices.Clone(late[to])
		}
		w.deliver(t, true, never)
		if !w.isDone() {
			t.Fatal("late frames undid what was done")
		}
		w.send(t, 0)
		w.send(t, 1)
		w.pump(t)
	}
}

// An end that met an earlier start, by a late frame, hears of the later one, and the other way about.
func TestALateFrameAheadOfALaterStart(t *testing.T) {
	a := made(t, 5)
	brings(t, a, hello(7, 4), nil, false, api.OK) // late, of the other one's 7th start
	b := made(t, 8)
	brings(t, b, a.Tick()[0], nil, false, api.OK)
	is(t, b, 8, 5, false, 0, 0)
	brings(t, a, b.Flush()[0], nil, true, api.OK)
	is(t, a, 5, 8, true, 64, 0)
	brings(t, b, a.Flush()[0], nil, false, api.OK)
	is(t, b, 8, 5, true, 64, 0)
}

// Rules that hold everywhere: memory, and from arguments alone

// text makes a text of bytes that may be changed behind its back.
func text(b []byte) string { return unsafe.String(unsafe.SliceData(b), len(b)) }

func TestWhatIsHandedInIsNotKept(t *testing.T) {
	l := sure(t, 3, 7)
	waits, went := []byte("waits"), []byte("went")
	sends(t, l, text(went))
	flushes(t, l, data(3, 7, 1, 1, "went"))
	sends(t, l, text(waits))
	copy(went, "xxxx")
	copy(waits, "xxxxx")
	ticks(t, l, data(3, 7, 1, 1, "went"), data(3, 7, 2, 1, "waits"))

	ahead, first := []byte(data(7, 3, 2, 1, "ahead")), []byte(data(7, 3, 1, 1, "first"))
	brings(t, l, text(ahead), nil, false, api.OK)
	copy(ahead[17:], "xxxxx")
	got, err := l.Receive(text(first))
	copy(first[17:], "xxxxx")
	if err != nil || !slices.Equal(got.Bodies, []string{"first", "ahead"}) {
		t.Errorf("what came is %q, %v", got.Bodies, err)
	}
}

func TestAnswersAreNewMemory(t *testing.T) {
	l := sure(t, 3, 7)
	body, came := "a body of some length", data(7, 3, 1, 1, "another body")
	sends(t, l, body, body)
	all := slices.Concat([]string{body, came}, l.Flush(), l.Tick(), l.Tick())
	got, err := l.Receive(came)
	if err != nil || len(got.Bodies) != 1 {
		t.Fatal(got, err)
	}
	inFrame := unsafe.Pointer(unsafe.StringData(came[17:]))
	if unsafe.Pointer(unsafe.StringData(got.Bodies[0])) == inFrame {
		t.Error("a body lies in the frame that was handed in")
	}
	for i, a := range all {
		for _, b := range all[:i] {
			if unsafe.StringData(a) == unsafe.StringData(b) {
				t.Fatalf("two of %q share memory", all)
			}
		}
	}
}

func TestChangedAnswersLeaveTheEnd(t *testing.T) {
	l := busy(t)
	sends(t, l, texts(3, 1)...)
	for _, frames := range [][]string{l.Flush(), l.Tick(), l.Tick()} {
		for i := range frames {
			frames[i] = "changed"
		}
		_ = append(frames, "more")
	}
	got, err := l.Receive(data(7, 3, 1, 1, "first"))
	if err != nil || len(got.Bodies) != 2 {
		t.Fatal(got, err)
	}
	got.Bodies[0], got.Bodies[1] = "changed", "changed"
	_ = append(got.Bodies, "more")
	ticks(t, l, datas(3, 7, 1, 3, 3)...)
	brings(t, l, data(7, 3, 3, 4, "third"), []string{"third"}, false, api.OK)
}

func TestLaterStepsLeaveAnswers(t *testing.T) {
	l := sure(t, 3, 7)
	sends(t, l, texts(1, 20)...)
	frames := l.Flush()
	got, err := l.Receive(data(7, 3, 1, 17, "a"))
	if err != nil {
		t.Fatal(err)
	}
	again := l.Tick()
	brings(t, l, data(7, 3, 2, 20, "b"), []string{"b"}, false, api.OK)
	sends(t, l, texts(21, 30)...)
	l.Tick()
	brings(t, l, hello(8, 3), nil, true, api.OK)
	areFrames(t, frames, datas(3, 7, 1, 16, 1))
	areFrames(t, again, datas(3, 7, 17, 4, 2))
	if !slices.Equal(got.Bodies, []string{"a"}) {
		t.Errorf("what came is %q", got.Bodies)
	}
}

func TestTheSameStepsComeToTheSame(t *testing.T) {
	run := func() string {
		r := rand.New(rand.NewSource(5))
		w := newWorld(t)
		for range 1000 {
			w.step(t, r, 5)
		}
		return fmt.Sprint(w.way, w.told, w.ends[0].Waiting(), w.ends[1].Waiting())
	}
	want := run()
	for range 5 {
		if run() != want {
			t.Fatal("the same steps came to something else")
		}
	}
}

// Ends have nothing in common.
func TestEndsAreApart(t *testing.T) {
	a, b := sure(t, 3, 7), sure(t, 3, 7)
	sends(t, a, texts(1, 30)...)
	a.Tick()
	brings(t, a, data(7, 3, 1, 4, "a"), []string{"a"}, false, api.OK)
	is(t, b, 3, 7, true, 64, 0)
	ticks(t, b, quiet(3, 7, 1))
}
