package iknp_test

import (
	"math/rand"
	"slices"
	"testing"

	"trefoil/api"
	"trefoil/baseot"
	"trefoil/bits"
	"trefoil/iknp"
)

// P17.4

func anyViews(r *rand.Rand) (baseot.View, baseot.View) {
	return baseot.Deal(anySeeds(r, 1)[0], r.Uint64()>>r.Intn(64))
}

// extended runs both sides of a direction.
func extended(t *testing.T, s baseot.Sender, v baseot.Receiver, from uint64, choices bits.Vec) (rows, own []api.Row) {
	t.Helper()
	cols, own := received(t, v, from, choices)
	return sent(t, s, from, cols), own
}

func TestWhatIsExtendedIsJoined(t *testing.T) {
	r := rand.New(rand.NewSource(1))
	for _, c := range spans {
		first, second := anyViews(r)
		for _, way := range []struct {
			s baseot.Sender
			v baseot.Receiver
		}{{first.Send, second.Recv}, {second.Send, first.Recv}} {
			for _, choices := range []bits.Vec{anyBits(r, c.n), blank(c.n), blank(c.n).Not()} {
				rows, own := extended(t, way.s, way.v, c.from, choices)
				if len(rows) != c.n || !iknp.Joined(way.s.Delta, rows, own, choices) {
					t.Errorf("%d from %d on aren't joined", c.n, c.from)
				}
				if iknp.Joined(way.s.Delta, rows, own, choices.Not()) {
					t.Errorf("%d from %d on are joined by the other choices", c.n, c.from)
				}
			}
		}
	}
}

func TestOneTransfer(t *testing.T) {
	first, second := anyViews(rand.New(rand.NewSource(2)))
	for from := range uint64(20) {
		rows, own := extended(t, first.Send, second.Recv, from, blank(1))
		if rows[0] != own[0] {
			t.Errorf("with the choice 0 the rows %d differ", from)
		}
		rows, own = extended(t, first.Send, second.Recv, from, blank(1).Not())
		if (api.Row{rows[0][0] ^ own[0][0], rows[0][1] ^ own[0][1]}) != first.Send.Delta {
			t.Errorf("with the choice 1 the rows %d don't differ by Delta", from)
		}
	}
}

// Not promised of all, but of these it would show that a part of what is given isn't asked for.
func TestOthersAreNotJoined(t *testing.T) {
	r := rand.New(rand.NewSource(3))
	first, second := anyViews(r)
	choices := anyBits(r, 100)
	cols, own := received(t, second.Recv, 50, choices)
	if rows := sent(t, first.Send, 51, cols); iknp.Joined(first.Send.Delta, rows, own, choices) {
		t.Error("other transfers are joined")
	}
	if rows := sent(t, second.Send, 50, cols); iknp.Joined(second.Send.Delta, rows, own, choices) {
		t.Error("the other direction is joined")
	}
	cols[0], _ = cols[0].With(7, !cols[0].Get(7))
	rows := sent(t, first.Send, 50, cols)
	if iknp.Joined(first.Send.Delta, rows, own, choices) == rowBit(first.Send.Delta, 0) {
		t.Error("a turned bit of a column that came counts where Delta has no bit, or doesn't where it has one")
	}
}

func TestColumnsAreAsManyAndLongAsTransfers(t *testing.T) {
	r := rand.New(rand.NewSource(4))
	for _, n := range []int{1, 8, 9, 64, 65, 511, 512, 4096} {
		for range 3 {
			choices := []bits.Vec{anyBits(r, n), blank(n), blank(n).Not()}[r.Intn(3)]
			cols, rows := received(t, anyReceiver(r), uint64(r.Intn(end-n+1)), choices)
			if len(cols) != 128 || len(rows) != n || slices.ContainsFunc(cols, func(col bits.Vec) bool { return col.Len() != n }) {
				t.Fatalf("of %d there are %d columns, or others as long", n, len(cols))
			}
		}
	}
}

// Rules that hold everywhere: whose memory is whose, and what an answer hangs on.

// withSpare tells a copy with room behind it that holds what must stay.
func withSpare[T any](l []T, spare ...T) []T {
	return slices.Concat(l, spare)[:len(l)]
}

func TestWhatIsHandedInIsNotChanged(t *testing.T) {
	r := rand.New(rand.NewSource(5))
	s, v, cols, rows, choices := anySender(r), anyReceiver(r), anyCols(r, 130, 100), anyRows(r, 102), anyBits(r, 100)
	keys, zero, one := anySeeds(r, 2), anySeeds(r, 2), anySeeds(r, 2)
	own := baseot.Sender{Delta: s.Delta, Keys: withSpare(s.Keys, keys...)}
	other := baseot.Receiver{Zero: withSpare(v.Zero, zero...), One: withSpare(v.One, one...)}
	came, delta, bools := withSpare(cols[:128], cols[128:]...), s.Delta, choices.Bools()
	sent(t, own, 3, came)
	received(t, other, 3, choices)
	a, b := withSpare(rows[:100], rows[100:]...), withSpare(rows[:100], rows[100:]...)
	iknp.Joined(delta, a, b, choices)
	if own.Delta != delta || !slices.Equal(own.Keys[:130], slices.Concat(s.Keys, keys)) || !sameCols(came[:130], cols) {
		t.Error("Send changed what it was given")
	}
	if !slices.Equal(other.Zero[:130], slices.Concat(v.Zero, zero)) || !slices.Equal(other.One[:130], slices.Concat(v.One, one)) || !slices.Equal(choices.Bools(), bools) {
		t.Error("Receive changed what it was given")
	}
	if !slices.Equal(a[:102], rows) || !slices.Equal(b[:102], rows) {
		t.Error("Joined changed what it was given")
	}
}

// spoil changes a list, and its spare room.
func spoil[T any](l []T, with T) {
	_ = append(l, with)
	l = l[:cap(l)]
	for i := range l {
		l[i] = with
	}
}

func TestAnswersAreNewMemory(t *testing.T) {
	r := rand.New(rand.NewSource(6))
	s, v, choices := anySender(r), anyReceiver(r), anyBits(r, 130)
	cols, rows := received(t, v, 3, choices)
	again, same := received(t, v, 3, choices)
	wantCols, wantRows := slices.Clone(cols), slices.Clone(rows)
	spoil(cols, blank(1))
	spoil(rows, api.Row{1, 1})
	for _, col := range again {
		clear(col.Raw())
	}
	if !sameCols(again, wantCols) || !slices.Equal(same, wantRows) {
		t.Error("answers of Receive share memory")
	}
	came := slices.Clone(again)
	first, second := sent(t, s, 3, again), sent(t, s, 3, again)
	want := slices.Clone(first)
	spoil(first, api.Row{1, 1})
	if !slices.Equal(second, want) || !sameCols(again, came) {
		t.Error("answers of Send share memory")
	}
	isReceived(t, v, 3, choices)
	isSent(t, s, 3, again)
}

func TestAnswersDontHangOnTheirArguments(t *testing.T) {
	r := rand.New(rand.NewSource(7))
	s, v, choices := anySender(r), anyReceiver(r), anyBits(r, 130)
	cols, rows := received(t, v, 3, choices)
	came := slices.Clone(cols)
	others := sent(t, s, 3, came)
	wantCols, wantRows, want := slices.Clone(cols), slices.Clone(rows), slices.Clone(others)
	clear(v.Zero)
	clear(v.One)
	clear(s.Keys)
	clear(came)
	if !sameCols(cols, wantCols) || !slices.Equal(rows, wantRows) || !slices.Equal(others, want) {
		t.Error("answers hang on what became of the arguments")
	}
}

// With an error nothing is kept: the next answer is as it would have been.
func TestErrorsLeaveNothingBehind(t *testing.T) {
	r := rand.New(rand.NewSource(8))
	s, v, choices := anySender(r), anyReceiver(r), anyBits(r, 75)
	cols := anyCols(r, 128, 75)
	iknp.Receive(v, end, choices)
	iknp.Receive(v, 3, blank(0))
	iknp.Receive(baseot.Receiver{}, 3, choices)
	iknp.Send(s, end, cols)
	iknp.Send(s, 3, cols[1:])
	iknp.Send(baseot.Sender{}, 3, cols)
	isReceived(t, v, 3, choices)
	isSent(t, s, 3, cols)
}
