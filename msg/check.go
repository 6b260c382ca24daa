package msg

import (
	"trefoil/api"
	"trefoil/shape"
)

// mostWords is how many words a Corr may have: a chunk's transfers, each with a row of numbers.
const mostWords = api.MaxChunk * api.MaxDim

// Check tells what is wrong with a message.
func Check(m Msg) api.Errno {
	switch m.Kind {
	default:
		return api.ErrKind
	case Start, Open, Mark, Want, Grant:
		if code := shape.Check(m.Class); code != api.OK {
			return code
		}
		fallthrough
	case Cols, Corr, Commit, Reveal, Verdict, Deny, Ack, Abort:
		return checkRest(m)
	}
}

// checkRest tells what is wrong with a message beside its kind and class.
func checkRest(m Msg) api.Errno {
	switch m.Kind {
	case Start:
		if !isCount(m.Count, api.MaxBatch) || m.Opened > m.Count {
			return api.ErrArg
		}
	case Cols:
		return checkCols(m)
	case Corr:
		return checkCorr(m)
	case Open:
		return checkOpen(m)
	case Want, Grant:
		if !isCount(m.Count, api.MaxPool) {
			return api.ErrArg
		}
	}
	return api.OK
}

func checkCols(m Msg) api.Errno {
	if !isCount(m.Count, api.MaxChunk) {
		return api.ErrLimit
	}
	if len(m.Data) != ColSize(m.Count) {
		return api.ErrShape
	}
	return api.OK
}

func checkCorr(m Msg) api.Errno {
	if m.Width < 1 || m.Width > api.MaxBits {
		return api.ErrShape
	}
	if len(m.Words) > mostWords {
		return api.ErrLimit
	}
	for _, x := range m.Words {
		if x>>m.Width != 0 {
			return api.ErrForm
		}
	}
	return api.OK
}

func checkOpen(m Msg) api.Errno {
	if len(m.Shares) > api.MaxBatch {
		return api.ErrLimit
	}
	for _, s := range m.Shares {
		if !shape.Fits(m.Class, s) {
			return api.ErrShape
		}
	}
	return api.OK
}

// isCount tells whether there are from one to so many.
func isCount(n, most uint32) bool { return n >= 1 && n <= most }
