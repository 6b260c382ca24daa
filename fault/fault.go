// Package fault wraps errors: each tells where it came by, and at its root what it is.
package fault

import (
	"strings"

	"trefoil/api"
)

// Fault is an error at a place: what it is (a root, of New), or what it came of (of Wrap).
type Fault struct {
	Code  api.Errno
	Where string
	Cause error
}

// Error tells the places, and the word at the root.
func (f *Fault) Error() string { return Text(f) }

// Unwrap tells what it came of; a root came of nothing.
func (f *Fault) Unwrap() error {
	if f == nil {
		return nil
	}
	return f.Cause
}

// Is tells whether it is, itself, the error of a number.
func (f *Fault) Is(target error) bool {
	return f.isRoot() && target == error(f.Code)
}

// As lets errors.As find a root's number, which lies in a field and not behind Unwrap.
func (f *Fault) As(target any) bool {
	return f.isRoot() && fill(target, f.Code)
}

// New makes an error at a place; OK makes none.
func New(code api.Errno, where string) error {
	if code == api.OK {
		return nil
	}
	return &Fault{Code: code, Where: where}
}

// Wrap tells that an error came by a place; none stays none.
func Wrap(where string, cause error) error {
	if cause == nil {
		return nil
	}
	return &Fault{Where: where, Cause: cause}
}

// Both tells two errors in one; none of them is left out.
func Both(a, b error) error {
	if a == nil {
		return b
	}
	if b == nil {
		return a
	}
	return &pair{first: a, second: b}
}

// Text tells an error's text: places, and the words of roots.
func Text(err error) string {
	var text strings.Builder
	ended := false
	walk(err, func(part error, end bool) step {
		if ended { // what comes behind an end is the second of two
			text.WriteString("; ")
			ended = false
		}
		if where, ok := place(part); ok {
			text.WriteString(where)
			text.WriteString(": ")
		}
		if !end && isOwn(part) {
			return enter
		}
		text.WriteString(word(part))
		ended = true
		return pass
	})
	return text.String()
}

// Has tells whether an error is, at some root, that of a number; of OK, whether there is none.
func Has(err error, code api.Errno) bool {
	if code == api.OK {
		return err == nil
	}
	found := false
	enterOnce := once()
	walk(err, func(part error, end bool) step {
		if end && is(part, code) {
			found = true
			return stop
		}
		return enterOnce(part)
	})
	return found
}

// Code tells the number of an error's first root; OK of none, ErrArg of one that has none, ErrNil if that is because a Fault in it was made by no call.
func Code(err error) api.Errno {
	if err == nil {
		return api.OK
	}
	code := api.ErrArg
	enterOnce := once()
	walk(err, func(part error, end bool) step {
		if first, ok := number(part, end); ok {
			code = first
			return stop
		}
		if isHollow(part) {
			code = api.ErrNil
		}
		return enterOnce(part)
	})
	return code
}

// Codes tells the numbers of all roots, in order.
func Codes(err error) []api.Errno {
	var codes []api.Errno
	walk(err, func(part error, end bool) step {
		if code, ok := number(part, end); ok {
			codes = append(codes, code)
		}
		return enter
	})
	return codes
}

// Path tells the places that an error came by, the last one ahead, as long as it came of one alone.
func Path(err error) []string {
	var places []string
	walk(err, func(part error, _ bool) step {
		where, ok := place(part)
		if !ok {
			return stop
		}
		places = append(places, where)
		return enter
	})
	return places
}

// At tells an error's first place, from the outermost one on, and whether it has one.
func At(err error) (string, bool) {
	first, found := "", false
	enterOnce := once()
	walk(err, func(part error, _ bool) step {
		first, found = place(part)
		if found {
			return stop
		}
		return enterOnce(part)
	})
	return first, found
}
