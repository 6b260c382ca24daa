package iknp_test

import (
	"math/rand"
	"slices"
	"testing"

	"trefoil/api"
	"trefoil/bits"
	"trefoil/iknp"
)

// P17.3

// shifted tells rows that are joined to others, by delta and choices.
func shifted(delta api.Row, rows []api.Row, choices bits.Vec) []api.Row {
	l := slices.Clone(rows)
	for j := range l {
		if choices.Get(j) {
			l[j][0] ^= delta[0]
			l[j][1] ^= delta[1]
		}
	}
	return l
}

func TestJoinedOfKnownRows(t *testing.T) {
	choices := func(l ...bool) bits.Vec {
		v, _ := bits.Of(l)
		return v
	}
	for _, c := range []struct {
		sent, received api.Row
		choice, want   bool
	}{
		{api.Row{1, 2}, api.Row{1, 2}, false, true},
		{api.Row{1, 2}, api.Row{1, 2}, true, false},
		{api.Row{1, 2}, api.Row{4, 10}, true, true},
		{api.Row{1, 2}, api.Row{4, 10}, false, false},
		{api.Row{4, 2}, api.Row{1, 2}, true, false},
		{api.Row{1, 10}, api.Row{1, 2}, true, false},
		{api.Row{5, 8}, api.Row{}, true, true},
		{api.Row{}, api.Row{5, 8}, true, true},
		{api.Row{}, api.Row{}, false, true},
		{api.Row{1, 0}, api.Row{}, false, false},
	} {
		if got := iknp.Joined(api.Row{5, 8}, []api.Row{c.sent}, []api.Row{c.received}, choices(c.choice)); got != c.want {
			t.Errorf("Joined of %x and %x by %t is %t", c.sent, c.received, c.choice, got)
		}
	}
	if !iknp.Joined(api.Row{5, 8}, []api.Row{{5, 8}, {7, 7}}, []api.Row{{}, {7, 7}}, choices(true, false)) {
		t.Error("two rows aren't joined")
	}
	if iknp.Joined(api.Row{5, 8}, []api.Row{{7, 7}, {5, 8}}, []api.Row{{7, 7}, {}}, choices(true, false)) {
		t.Error("two rows are joined by each other's choices")
	}
}

func TestJoinedOfDrawnRows(t *testing.T) {
	r := rand.New(rand.NewSource(1))
	for _, n := range []int{1, 2, 63, 64, 65, 200, 4096, 4097, 70000} { // no limit is named
		for _, delta := range []api.Row{{}, {1, 0}, {0, 1 << 63}, {top, top}, anyRow(r)} {
			rows, choices := anyRows(r, n), anyBits(r, n)
			if !iknp.Joined(delta, shifted(delta, rows, choices), rows, choices) {
				t.Errorf("%d rows aren't joined by %x", n, delta)
			}
		}
	}
}

// One bit alone, wherever it is turned, is told.
func TestNotJoinedBySingleBits(t *testing.T) {
	r := rand.New(rand.NewSource(2))
	const n = 130
	delta, rows, choices := anyRow(r), anyRows(r, n), anyBits(r, n)
	others := shifted(delta, rows, choices)
	for j := range n {
		for _, i := range []int{0, 1, 63, 64, 126, 127, r.Intn(128)} {
			for _, l := range [][]api.Row{rows, others} {
				l[j][i/64] ^= 1 << (i % 64)
				if iknp.Joined(delta, others, rows, choices) {
					t.Fatalf("with another bit %d of row %d they are joined", i, j)
				}
				l[j][i/64] ^= 1 << (i % 64)
			}
		}
		turned, _ := choices.With(j, !choices.Get(j))
		if iknp.Joined(delta, others, rows, turned) {
			t.Fatalf("with another choice %d they are joined", j)
		}
	}
	for i := range 128 {
		other := delta
		other[i/64] ^= 1 << (i % 64)
		if iknp.Joined(other, others, rows, choices) {
			t.Fatalf("with another bit %d of delta they are joined", i)
		}
	}
	if !iknp.Joined(delta, others, rows, choices) {
		t.Error("what was turned back isn't joined")
	}
}

func TestJoinedHangsOnWhatIsChosenAlone(t *testing.T) {
	r := rand.New(rand.NewSource(3))
	rows := anyRows(r, 100)
	if !iknp.Joined(anyRow(r), rows, rows, blank(100)) {
		t.Error("where nothing is chosen delta counts")
	}
	if !iknp.Joined(api.Row{}, rows, rows, anyBits(r, 100)) {
		t.Error("where delta is nothing the choices count")
	}
}

func TestNotJoinedOfOtherNumbers(t *testing.T) {
	none := make([]api.Row, 200) // all alike, so that nothing but their numbers tells them apart
	numbers := []int{0, 1, 2, 63, 64, 65, 128, 200}
	for _, a := range numbers {
		for _, b := range numbers {
			for _, c := range numbers {
				for _, delta := range []api.Row{{}, {5, 8}} {
					if got := iknp.Joined(delta, none[:a], none[:b], blank(c)); got != (a == b && b == c) {
						t.Errorf("Joined of %d and %d rows and %d choices is %t", a, b, c, got)
					}
				}
			}
		}
	}
}

func TestJoinedOfNothing(t *testing.T) {
	for _, l := range [][]api.Row{nil, {}} {
		if !iknp.Joined(api.Row{5, 8}, l, nil, bits.Vec{}) || !iknp.Joined(api.Row{}, nil, l, blank(0)) {
			t.Error("no rows aren't joined")
		}
		if iknp.Joined(api.Row{}, l, []api.Row{{}}, blank(1)) || iknp.Joined(api.Row{}, []api.Row{{}}, l, blank(1)) || iknp.Joined(api.Row{}, l, l, blank(1)) {
			t.Error("none and one are joined")
		}
	}
}
