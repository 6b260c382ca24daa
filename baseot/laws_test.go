package baseot_test

import (
	"math/rand"
	"slices"
	"testing"

	"trefoil/api"
	"trefoil/baseot"
)

// P15.4

func TestWhatIsDealtMatches(t *testing.T) {
	r := rand.New(rand.NewSource(1))
	for range 100 {
		first, second := baseot.Deal(anySeed(r), r.Uint64()>>r.Intn(64))
		if !baseot.Match(first.Send, second.Recv) || !baseot.Match(second.Send, first.Recv) {
			t.Fatal("what is dealt doesn't match")
		}
		if baseot.Match(first.Send, first.Recv) || baseot.Match(second.Send, second.Recv) {
			t.Fatal("both directions are one")
		}
	}
}

func TestTheSameIsDealtAgain(t *testing.T) {
	r := rand.New(rand.NewSource(2))
	for range 20 {
		master, epoch := anySeed(r), r.Uint64()
		first, second := baseot.Deal(master, epoch)
		baseot.Deal(anySeed(r), r.Uint64())
		third, fourth := baseot.Deal(master, epoch)
		if !sameView(first, third) || !sameView(second, fourth) {
			t.Fatalf("of %x and %d another is dealt", master, epoch)
		}
	}
}

// Not promised of all seeds, but of these it would show that a part of what is given isn't asked for.
func TestOtherMastersAndEpochsAreDealtOthers(t *testing.T) {
	seen := map[api.Row]int{}
	note := func(master api.Seed, epoch uint64) {
		first, second := baseot.Deal(master, epoch)
		seen[first.Send.Delta]++
		seen[second.Send.Delta]++
	}
	note(rising(), 0)
	for i := range 64 {
		note(rising(), 1<<i)
	}
	for i := range 32 {
		master := rising()
		master[i] ^= 1
		note(master, 0)
	}
	if len(seen) != 2*(1+64+32) {
		t.Errorf("%d Deltas are unlike, not %d", len(seen), 2*(1+64+32))
	}
}

// lists are all lists of views.
func lists(views ...*baseot.View) []*[]api.Seed {
	var l []*[]api.Seed
	for _, v := range views {
		l = append(l, &v.Send.Keys, &v.Recv.Zero, &v.Recv.One)
	}
	return l
}

// spoil changes a list, and its spare room.
func spoil(l []api.Seed) {
	l = l[:cap(l)]
	for i := range l {
		l[i][0]++
	}
}

// ownMemory spoils each list of views in its turn, and asks whether all others are as they were.
func ownMemory(t *testing.T, views ...*baseot.View) {
	t.Helper()
	all := lists(views...)
	for i, one := range all {
		var before [][]api.Seed
		for _, l := range all {
			before = append(before, slices.Clone(*l))
		}
		_ = append(*one, api.Seed{1}) // writes into spare room, if there is some
		spoil(*one)
		for k, l := range all {
			if k != i && !slices.Equal(*l, before[k]) {
				t.Errorf("the list %d shares memory with the list %d", i, k)
			}
		}
	}
}

func TestAnswersAreNewMemory(t *testing.T) {
	first, second := baseot.Deal(rising(), 5)
	third, fourth := baseot.Deal(rising(), 5)
	ownMemory(t, &first, &second, &third, &fourth)
	fifth, sixth := baseot.Deal(rising(), 5)
	if first, second := baseot.Deal(rising(), 5); !sameView(first, fifth) || !sameView(second, sixth) {
		t.Error("what is dealt hangs on what became of another answer")
	}
}

func TestClonesAreNewMemory(t *testing.T) {
	first, _ := baseot.Deal(rising(), 5)
	a, b := first.Clone(), first.Clone()
	c := a.Clone()
	ownMemory(t, &first, &a, &b, &c)

	one := anySeeds(rand.New(rand.NewSource(3)), 130)
	shared := baseot.View{Send: baseot.Sender{Keys: one[:128]}, Recv: baseot.Receiver{Zero: one[:128], One: one[1:129]}}
	d := shared.Clone() // of lists that lie in one another
	e := shared.Clone()
	ownMemory(t, &d, &e)
	if want := anySeeds(rand.New(rand.NewSource(3)), 130); !slices.Equal(one, want) {
		t.Error("a clone shares memory with what it was made of")
	}
}

// What is handed in is as it was, its spare room included.
func TestWhatIsHandedInIsNotChanged(t *testing.T) {
	r := rand.New(rand.NewSource(4))
	s, v := madeBy(r, anyRow(r))
	views := [2]baseot.View{}
	for i := range views {
		views[i].Send = baseot.Sender{Delta: s.Delta, Keys: append(slices.Clone(s.Keys), api.Seed{9})[:128]}
		views[i].Recv = baseot.Receiver{Zero: append(slices.Clone(v.Zero), api.Seed{8})[:128], One: append(slices.Clone(v.One), api.Seed{7})[:128]}
	}
	given, kept := views[0], views[1]
	baseot.Match(given.Send, given.Recv)
	clone := given.Clone()
	for _, l := range lists(&clone) {
		_ = append(*l, api.Seed{1})
		spoil(*l)
	}
	for i, l := range lists(&given) {
		if !slices.Equal((*l)[:129], (*lists(&kept)[i])[:129]) {
			t.Errorf("the list %d was changed", i)
		}
	}
	if given.Send.Delta != kept.Send.Delta {
		t.Error("Delta was changed")
	}
}
