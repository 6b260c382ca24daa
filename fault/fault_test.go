package fault_test

import (
	"errors"
	"fmt"
	"slices"
	"strings"
	"testing"

	"trefoil/api"
	"trefoil/fault"
)

// want is all that the calls are to tell of an error.
type want struct {
	text  string
	codes []api.Errno
	path  []string
	at    string
	has   bool // whether there is a place
}

func check(t *testing.T, name string, err error, w want) {
	t.Helper()
	if got := fault.Text(err); got != w.text {
		t.Errorf("%s: Text is %q, not %q", name, got, w.text)
	}
	if got := fault.Codes(err); !slices.Equal(got, w.codes) {
		t.Errorf("%s: Codes is %v, not %v", name, got, w.codes)
	}
	first := api.OK
	if len(w.codes) > 0 {
		first = w.codes[0]
	}
	if got := fault.Code(err); got != first {
		t.Errorf("%s: Code is %d, not %d", name, got, first)
	}
	if got := fault.Path(err); !slices.Equal(got, w.path) {
		t.Errorf("%s: Path is %q, not %q", name, got, w.path)
	}
	if at, ok := fault.At(err); at != w.at || ok != w.has {
		t.Errorf("%s: At is %q %v, not %q %v", name, at, ok, w.at, w.has)
	}
	checkHas(t, name, err, w.codes)
	if err != nil && err.Error() != w.text {
		t.Errorf("%s: Error is %q, not %q", name, err.Error(), w.text)
	}
}

// checkHas asks for every number near those of the document whether it is found, by Has and by errors.Is.
func checkHas(t *testing.T, name string, err error, codes []api.Errno) {
	t.Helper()
	if fault.Has(err, api.OK) != (err == nil) {
		t.Errorf("%s: Has of OK is %v", name, fault.Has(err, api.OK))
	}
	for code := api.Errno(-2); code < 60; code++ {
		is := slices.Contains(codes, code)
		if code != api.OK && fault.Has(err, code) != is {
			t.Errorf("%s: Has(%d) is %v", name, code, !is)
		}
		if errors.Is(err, code) != is {
			t.Errorf("%s: errors.Is of %d is %v", name, code, !is)
		}
	}
	var found api.Errno
	if errors.As(err, &found) != (len(codes) > 0) || len(codes) > 0 && found != codes[0] {
		t.Errorf("%s: errors.As finds %d", name, found)
	}
}

// P1.1

func TestNew(t *testing.T) {
	if err := fault.New(api.OK, "tape"); err != nil {
		t.Error("New of OK is", err)
	}
	for _, code := range []api.Errno{api.ErrArg, api.ErrTape, api.ErrEnd, -7, 1 << 40} {
		err := fault.New(code, "tape")
		var f *fault.Fault
		if !errors.As(err, &f) || f.Code != code || f.Where != "tape" || f.Cause != nil {
			t.Errorf("New(%d) is %v", code, err)
		}
	}
}

func TestWrap(t *testing.T) {
	if err := fault.Wrap("link", nil); err != nil {
		t.Error("Wrap of nil is", err)
	}
	if err := fault.Wrap("link", fault.New(api.OK, "tape")); err != nil {
		t.Error("Wrap of New of OK is", err)
	}
	if err := fault.Wrap("link", fault.Both(nil, nil)); err != nil {
		t.Error("Wrap of Both of none is", err)
	}
	root := fault.New(api.ErrTape, "tape")
	var f *fault.Fault
	err := fault.Wrap("link", root)
	if !errors.As(err, &f) || f.Where != "link" || f.Cause != root || f.Code != api.OK {
		t.Error("Wrap is", err)
	}
	if errors.Unwrap(err) != root || errors.Unwrap(root) != nil {
		t.Error("Unwrap of", err, "is", errors.Unwrap(err))
	}
}

func TestBoth(t *testing.T) {
	a, b := fault.New(api.ErrTape, "a"), fault.New(api.ErrShape, "b")
	if fault.Both(nil, nil) != nil || fault.Both(a, nil) != a || fault.Both(nil, b) != b {
		t.Error("Both of nil is not the other one")
	}
	if both := fault.Both(a, b); both == nil || both == a || both == b || !errors.Is(both, a) || !errors.Is(both, b) {
		t.Error("Both of two is", both)
	}
	if same := fault.Both(a, a); fault.Text(same) != "a: tape exhausted; a: tape exhausted" {
		t.Error("Both of one twice is", same)
	}
	if fault.Both(api.OK, nil) != error(api.OK) || fault.Both(nil, api.ErrTape) != error(api.ErrTape) {
		t.Error("Both of nil and an Errno is not that Errno")
	}
}

// P1.2, P1.3, P1.4

func TestTells(t *testing.T) {
	root := fault.New(api.ErrTape, "tape")
	wrapped := fault.Wrap("link", root)
	number := fault.Wrap("x", api.ErrAbort)
	both := fault.Both(number, wrapped)
	numbers := fault.Both(api.ErrShape, api.ErrEpoch)
	for name, c := range map[string]struct {
		err error
		want
	}{
		"nil":            {nil, want{}},
		"root":           {root, want{"tape: tape exhausted", []api.Errno{10}, []string{"tape"}, "tape", true}},
		"root, no place": {fault.New(api.ErrArg, ""), want{": error", []api.Errno{1}, []string{""}, "", true}},
		"unknown number": {fault.New(-2, "a"), want{"a: error", []api.Errno{-2}, []string{"a"}, "a", true}},
		"Errno":          {api.ErrDupTicket, want{"ticket twice", []api.Errno{41}, nil, "", false}},
		"Errno OK":       {api.OK, want{"ok", []api.Errno{0}, nil, "", false}},
		"OK wrapped":     {fault.Wrap("a", api.OK), want{"a: ok", []api.Errno{0}, []string{"a"}, "a", true}},
		"wrapped":        {wrapped, want{"link: tape: tape exhausted", []api.Errno{10}, []string{"link", "tape"}, "link", true}},
		"Errno wrapped":  {number, want{"x: aborted", []api.Errno{33}, []string{"x"}, "x", true}},
		"no places":      {fault.Wrap("", fault.Wrap("", api.ErrArg)), want{": : error", []api.Errno{1}, []string{"", ""}, "", true}},
		"odd places":     {fault.Wrap("a: b; ", fault.New(api.ErrShape, "\xff\x00")), want{"a: b; : \xff\x00: bad shape", []api.Errno{11}, []string{"a: b; ", "\xff\x00"}, "a: b; ", true}},
		"both":           {both, want{"x: aborted; link: tape: tape exhausted", []api.Errno{33, 10}, nil, "x", true}},
		"both wrapped":   {fault.Wrap("y", both), want{"y: x: aborted; link: tape: tape exhausted", []api.Errno{33, 10}, []string{"y"}, "y", true}},
		"both numbers":   {numbers, want{"bad shape; no epoch", []api.Errno{11, 20}, nil, "", false}},
		"both, left":     {fault.Both(fault.Both(api.ErrArg, root), number), want{"error; tape: tape exhausted; x: aborted", []api.Errno{1, 10, 33}, nil, "tape", true}},
		"both, right":    {fault.Both(api.ErrArg, fault.Both(number, root)), want{"error; x: aborted; tape: tape exhausted", []api.Errno{1, 33, 10}, nil, "x", true}},
		"second's place": {fault.Both(numbers, fault.Wrap("z", numbers)), want{"bad shape; no epoch; z: bad shape; no epoch", []api.Errno{11, 20, 11, 20}, nil, "z", true}},
		"wrapped halves": {fault.Wrap("a", fault.Wrap("b", fault.Both(fault.Wrap("c", numbers), root))), want{"a: b: c: bad shape; no epoch; tape: tape exhausted", []api.Errno{11, 20, 10}, []string{"a", "b"}, "a", true}},
	} {
		check(t, name, c.err, c.want)
	}
}

func TestTellsEveryNumber(t *testing.T) {
	for code := api.Errno(1); code < 60; code++ {
		text := "a: b: " + code.Error()
		check(t, text, fault.Wrap("a", fault.New(code, "b")), want{text, []api.Errno{code}, []string{"a", "b"}, "a", true})
		check(t, text, code, want{text: code.Error(), codes: []api.Errno{code}})
	}
}

// grown is an error, and what is to be told of it.
type grown struct {
	err error
	want
}

func growRoot(next func(int) int) grown {
	code, where := api.Errno(1+next(59)), fmt.Sprint("p", next(9))
	if next(3) == 0 {
		return grown{code, want{text: code.Error(), codes: []api.Errno{code}}}
	}
	return grown{fault.New(code, where), want{where + ": " + code.Error(), []api.Errno{code}, []string{where}, where, true}}
}

func growWrap(where string, g grown) grown {
	return grown{fault.Wrap(where, g.err), want{where + ": " + g.text, g.codes, append([]string{where}, g.path...), where, true}}
}

func growBoth(a, b grown) grown {
	w := want{text: a.text + "; " + b.text, codes: slices.Concat(a.codes, b.codes), at: a.at, has: a.has}
	if !a.has {
		w.at, w.has = b.at, b.has
	}
	return grown{fault.Both(a.err, b.err), w}
}

func TestTellsOfGrownErrors(t *testing.T) {
	state := uint32(1)
	next := func(n int) int {
		state = state*1664525 + 1013904223
		return int(state>>16) % n
	}
	for range 300 {
		all := []grown{growRoot(next)}
		for range next(12) {
			a, b := all[next(len(all))], all[next(len(all))]
			switch next(3) {
			case 0:
				all = append(all, growRoot(next))
			case 1:
				all = append(all, growWrap(fmt.Sprint("w", next(9)), a))
			case 2:
				all = append(all, growBoth(a, b))
			}
		}
		for _, g := range all {
			check(t, g.text, g.err, g.want)
		}
	}
}

// P1.5

func TestWrappedManyTimes(t *testing.T) {
	const many = 1 << 16
	root := fault.Both(fault.New(api.ErrTape, "tape"), api.ErrShape)
	err := root
	for i := range many {
		err = fault.Wrap(fmt.Sprint(i), err)
	}
	var text strings.Builder
	var path []string
	for i := many - 1; i >= 0; i-- {
		path = append(path, fmt.Sprint(i))
		text.WriteString(fmt.Sprint(i) + ": ")
	}
	text.WriteString("tape: tape exhausted; bad shape")
	check(t, "many", err, want{text.String(), []api.Errno{10, 11}, path, fmt.Sprint(many - 1), true})
	var f *fault.Fault
	if !errors.Is(err, root) || !errors.As(err, &f) || f.Where != fmt.Sprint(many-1) {
		t.Error("errors.Is or errors.As doesn't find what was wrapped")
	}
}

func TestBothManyTimes(t *testing.T) {
	const many = 1 << 16
	left, right := error(api.ErrTape), error(api.ErrTape)
	for range many {
		left, right = fault.Both(left, api.ErrShape), fault.Both(api.ErrShape, right)
	}
	shapes := slices.Repeat([]api.Errno{api.ErrShape}, many)
	words := strings.Repeat("; bad shape", many)
	check(t, "left", left, want{text: "tape exhausted" + words, codes: append([]api.Errno{api.ErrTape}, shapes...)})
	check(t, "right", right, want{text: words[2:] + "; tape exhausted", codes: append(shapes, api.ErrTape)})
}

// An error of both of which both are the same one has more ways through it than can be gone.
func TestBothOfTheSameEnds(t *testing.T) {
	err := error(api.ErrTape)
	for range 200 {
		err = fault.Both(err, err)
	}
	placed := fault.Both(err, fault.Wrap("last", api.ErrShape))
	if fault.Has(err, api.ErrShape) || !fault.Has(placed, api.ErrShape) || fault.Code(placed) != api.ErrTape {
		t.Error("Has or Code is wrong")
	}
	if at, ok := fault.At(err); at != "" || ok {
		t.Error("At is", at, ok)
	}
	if at, ok := fault.At(placed); at != "last" || !ok {
		t.Error("At is", at, ok)
	}
	if len(fault.Path(placed)) != 0 {
		t.Error("Path is not empty")
	}
}

// Memory: an answer shares nothing with another one.
func TestAnswersAreNew(t *testing.T) {
	err := fault.Wrap("a", fault.Both(fault.New(api.ErrTape, "b"), api.ErrShape))
	fault.Codes(err)[0] = api.ErrArg
	fault.Path(err)[0] = "changed"
	halves, ok := errors.Unwrap(err).(interface{ Unwrap() []error })
	if !ok {
		t.Fatal("no error of both")
	}
	halves.Unwrap()[0] = nil
	check(t, "changed answers", err, want{"a: b: tape exhausted; bad shape", []api.Errno{10, 11}, []string{"a"}, "a", true})
}
