package window

import (
	"testing"

	"trefoil/api"
)

// What was told is held no more, and what has come is kept no more: no call from outside tells whether memory still has it.

func TestWhatWasToldIsHeldNoMore(t *testing.T) {
	x := &In{}
	for round := range uint32(50) {
		for ahead := uint32(api.MaxWindow); ahead > 0; ahead-- {
			if _, code := x.Take(round*api.MaxWindow+ahead, "body"); code != api.OK {
				t.Fatalf("the error %d", code)
			}
		}
		if len(x.held) != 0 {
			t.Fatalf("behind %d bodies %d are held", x.told, len(x.held))
		}
	}
}

func TestWhatHasComeIsKeptNoMore(t *testing.T) {
	o := &Out{}
	for range 200 {
		for range 5 {
			if _, code := o.Put("body"); code != api.OK {
				t.Fatalf("the error %d", code)
			}
		}
		if code := o.Ack(o.Next() - 2); code != api.OK {
			t.Fatalf("the error %d", code)
		}
		for i, body := range o.sent[:cap(o.sent)] {
			if i >= len(o.sent) && body != "" {
				t.Fatalf("%q is kept behind the %d that are pending", body, len(o.sent))
			}
		}
		if code := o.Ack(o.Next()); code != api.OK {
			t.Fatalf("the error %d", code)
		}
		if len(o.sent) != 0 || cap(o.sent) > api.MaxWindow {
			t.Fatalf("%d are kept, in room for %d", len(o.sent), cap(o.sent))
		}
	}
}
