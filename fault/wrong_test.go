package fault_test

import (
	"errors"
	"fmt"
	"testing"

	"trefoil/api"
	"trefoil/fault"
)

// Rule 'Ends': whatever is handed in, a call ends and doesn't panic.

func TestFaultThatNoCallMade(t *testing.T) {
	for name, f := range map[string]*fault.Fault{"nil": nil, "zero": {}} {
		if f.Error() != "" || f.Unwrap() != nil || f.Is(api.ErrTape) || f.Is(api.OK) || f.Is(nil) {
			t.Error(name, "tells something")
		}
		var code api.Errno
		if f.As(&code) || f.As(nil) || errors.As(f, &code) || code != api.OK {
			t.Error(name, "has a number")
		}
		if fault.Text(f) != "" || fault.Has(f, api.ErrNil) || fault.Has(f, api.OK) || len(fault.Codes(f)) != 0 || len(fault.Path(f)) != 0 {
			t.Error(name, "tells something")
		}
		if at, ok := fault.At(f); at != "" || ok {
			t.Error(name, "has a place")
		}
		if fault.Code(f) != api.ErrNil || fault.Code(fault.Wrap("a", f)) != api.ErrNil {
			t.Error(name, "isn't ErrNil")
		}
		if both := fault.Both(f, fault.New(api.ErrTape, "b")); fault.Code(both) != api.ErrTape || !fault.Has(both, api.ErrTape) {
			t.Error(name, "hides the other error")
		}
	}
}

func TestIsOfAFault(t *testing.T) {
	root := &fault.Fault{Code: api.ErrTape, Where: "tape"}
	wrapped := &fault.Fault{Where: "link", Cause: root}
	if !root.Is(api.ErrTape) || root.Is(api.ErrShape) || root.Is(api.OK) || root.Is(nil) || root.Is(root) || root.Is(wrapped) {
		t.Error("Is of a root is wrong")
	}
	if wrapped.Is(api.ErrTape) || wrapped.Is(api.OK) {
		t.Error("a wrapped error is, itself, no number")
	}
	if root.Is(list{1}) || errors.Is(wrapped, list{1}) {
		t.Error("Is of another error is true")
	}
}

func TestAsOfAFault(t *testing.T) {
	root := &fault.Fault{Code: api.ErrTape, Where: "tape"}
	var code api.Errno
	var other int
	if root.As(nil) || root.As((*api.Errno)(nil)) || root.As(&other) || root.As(code) || other != 0 {
		t.Error("As takes what is no place for a number")
	}
	if wrapped := (&fault.Fault{Where: "link", Cause: root}); wrapped.As(&code) || code != api.OK {
		t.Error("a wrapped error has, itself, no number")
	}
	if !root.As(&code) || code != api.ErrTape {
		t.Error("As finds", code)
	}
}

// list can't be compared.
type list []int

func (l list) Error() string { return "list" }

// wild panics, whatever it is asked.
type wild struct{}

func (wild) Error() string { panic("Error") }
func (wild) Unwrap() error { panic("Unwrap") }
func (wild) Is(error) bool { panic("Is") }
func (wild) As(any) bool   { panic("As") }

// wildEnd came of nothing, but panics.
type wildEnd struct{}

func (*wildEnd) Error() string { panic("Error") }
func (*wildEnd) Is(error) bool { panic("Is") }
func (*wildEnd) As(any) bool   { panic("As") }

// value's methods can't be called by a nil pointer.
type value struct{ text string }

func (v value) Error() string { return v.text }

// self came of itself.
type self struct{}

func (self) Error() string   { return "self" }
func (s self) Unwrap() error { return s }

func TestErrorsOfOthers(t *testing.T) {
	root := fault.New(api.ErrTape, "tape")
	for name, c := range map[string]struct {
		err  error
		text string
	}{
		"plain":         {errors.New("disk"), "disk"},
		"list":          {list{1, 2}, "list"},
		"wild":          {wild{}, ""},
		"wild end":      {&wildEnd{}, ""},
		"nil wild end":  {(*wildEnd)(nil), ""},
		"nil value":     {(*value)(nil), ""},
		"self":          {self{}, "self"},
		"empty several": {several{}, "several"},
		"several nil":   {several{nil, nil}, "several"},
	} {
		if got := fault.Text(c.err); got != c.text {
			t.Errorf("%s: Text is %q", name, got)
		}
		if got := fault.Text(fault.Wrap("a", fault.Both(c.err, root))); got != "a: "+c.text+"; tape: tape exhausted" {
			t.Errorf("%s: Text is %q", name, got)
		}
		if fault.Code(c.err) != api.ErrArg || len(fault.Codes(c.err)) != 0 || len(fault.Path(c.err)) != 0 {
			t.Errorf("%s: it has a number or a place", name)
		}
		if at, ok := fault.At(c.err); at != "" || ok {
			t.Errorf("%s: At is %q", name, at)
		}
		if fault.Has(c.err, api.ErrTape) || fault.Has(c.err, api.OK) || fault.Has(c.err, api.ErrArg) {
			t.Errorf("%s: it has a number", name)
		}
		if both := fault.Both(c.err, root); fault.Code(both) != api.ErrTape || !fault.Has(both, api.ErrTape) {
			t.Errorf("%s: it hides the other error", name)
		}
	}
}

// several came of many.
type several []error

func (several) Error() string     { return "several" }
func (s several) Unwrap() []error { return s }

func TestNumbersBehindErrorsOfOthers(t *testing.T) {
	root := fault.New(api.ErrTape, "tape")
	outer := fault.Wrap("a", fmt.Errorf("b: %w", fault.Both(root, api.ErrShape)))
	if fault.Text(outer) != "a: b: tape: tape exhausted; bad shape" || fault.Code(outer) != api.ErrTape || !fault.Has(outer, api.ErrShape) {
		t.Error(fault.Text(outer), fault.Codes(outer))
	}
	joined := several{nil, root, several{api.ErrShape}}
	if codes := fault.Codes(joined); len(codes) != 2 || codes[0] != api.ErrTape || codes[1] != api.ErrShape {
		t.Error("Codes of several is", codes)
	}
	if at, ok := fault.At(joined); at != "tape" || !ok {
		t.Error("At of several is", at, ok)
	}
}

func TestFaultTiedToItself(t *testing.T) {
	ring := &fault.Fault{Where: "a"}
	ring.Cause = fault.Wrap("b", ring)
	if fault.Has(ring, api.ErrTape) || fault.Code(ring) != api.ErrArg || len(fault.Codes(ring)) != 0 {
		t.Error("a ring has a number")
	}
	if at, ok := fault.At(ring); at != "a" || !ok {
		t.Error("At is", at, ok)
	}
	if fault.Text(ring)[:6] != "a: b: " || fault.Path(ring)[1] != "b" || ring.Error() == "" {
		t.Error("a ring's text or path doesn't begin with its places")
	}
}
