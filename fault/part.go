package fault

import (
	"errors"
	"slices"

	"trefoil/api"
)

// pair is what Both makes of two errors.
type pair struct {
	first, second error
}

// Error tells both texts.
func (p *pair) Error() string { return Text(p) }

// Unwrap gives errors.Is and errors.As both ways to go.
func (p *pair) Unwrap() []error { return []error{p.first, p.second} }

// wrapper is an error that came of another one.
type wrapper interface {
	Unwrap() error
}

// joiner is an error that came of several.
type joiner interface {
	Unwrap() []error
}

// step says how a walk goes on behind a part.
type step int

const (
	enter step = iota // into what the part came of
	pass              // past it
	stop              // no further
)

// deepest ends the walk through an error that was tied to itself by hand; it lies far above the depth that is promised (2^16).
const deepest = 1 << 20

// nested is a part that a walk has still to go through, and how deep it lies.
type nested struct {
	err   error
	depth int
}

// walk visits the parts of an error, the outermost one first, and of several each with all that it came of ahead of the next. end says that a part came of nothing. It keeps a list of its own, since calls nested as deep as errors could be too many.
func walk(err error, visit func(part error, end bool) step) {
	rest := []nested{{err: err}}
	for len(rest) > 0 {
		part := rest[len(rest)-1]
		rest = rest[:len(rest)-1]
		if part.err == nil || part.depth > deepest {
			continue
		}
		inner := causes(part.err)
		switch visit(part.err, len(inner) == 0) {
		case stop:
			return
		case enter:
			for _, cause := range slices.Backward(inner) {
				rest = append(rest, nested{err: cause, depth: part.depth + 1})
			}
		}
	}
}

// once makes a visitor's answer that enters a part of the program's own the first time only: an error of both of which both are the same one has few parts, but many ways through them.
func once() func(error) step {
	seen := map[error]struct{}{}
	return func(part error) step {
		if !isOwn(part) { // it may not be comparable
			return enter
		}
		if _, again := seen[part]; again {
			return pass
		}
		seen[part] = struct{}{}
		return enter
	}
}

// guarded calls what may run code of another's error type, and answers zero if that panics.
func guarded[T any](call func() T) (answer T) {
	defer func() { _ = recover() }()
	return call()
}

// causes tells what an error came of.
func causes(err error) []error {
	return guarded(func() []error {
		switch part := err.(type) {
		case joiner:
			return part.Unwrap()
		case wrapper:
			if cause := part.Unwrap(); cause != nil {
				return []error{cause}
			}
		}
		return nil
	})
}

// isOwn tells whether this package made an error of another one, or of a number.
func isOwn(err error) bool {
	switch err.(type) {
	case *Fault, *pair:
		return true
	}
	return false
}

// isRoot tells whether New made it.
func (f *Fault) isRoot() bool {
	return f != nil && f.Cause == nil && f.Code != api.OK
}

// isHollow tells whether an error is a Fault that neither New nor Wrap made: nil, or without a number and a cause.
func isHollow(err error) bool {
	f, ok := err.(*Fault)
	return ok && f.Unwrap() == nil && !f.isRoot()
}

// place tells a part's own place, if it is one of New or Wrap.
func place(part error) (string, bool) {
	f, ok := part.(*Fault)
	if !ok || isHollow(f) {
		return "", false
	}
	return f.Where, true
}

// is tells whether a part that came of nothing is the error of a number.
func is(end error, code api.Errno) bool {
	return guarded(func() bool { return errors.Is(end, code) })
}

// number tells a part's own number, if the part came of nothing and is a root.
func number(part error, end bool) (api.Errno, bool) {
	var code api.Errno
	if !end || !guarded(func() bool { return errors.As(part, &code) }) {
		return api.OK, false
	}
	return code, true
}

// word tells what stands behind the last place: a root's word, or the text of an error that is not of this package.
func word(end error) string {
	if f, ok := end.(*Fault); ok {
		if f.isRoot() {
			return f.Code.Error()
		}
		return ""
	}
	return guarded(end.Error)
}

// fill lays a number where errors.As looks for one.
func fill(target any, code api.Errno) bool {
	spot, ok := target.(*api.Errno)
	if !ok || spot == nil {
		return false
	}
	*spot = code
	return true
}
