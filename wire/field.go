package wire

import "trefoil/api"

// read reads a field: tell says of the bytes that are left what the field is, in how many of them it lies, and its fault. With a fault none of them is read, so that a field is read whole or not at all.
func read[T any](r *Reader, field string, tell func(rest string) (T, int, api.Errno)) T {
	var none T
	if r.isOver() {
		return none
	}
	value, size, code := tell(r.text[r.at:])
	if code != api.OK {
		r.Fail(field, code)
		return none
	}
	r.at += size
	return value
}

// first tells the first n bytes.
func first(rest string, n int) (string, api.Errno) {
	if n > len(rest) {
		return "", api.ErrShort
	}
	return rest[:n], api.OK
}

// list is a field of many things: how many, and the bytes that hold them.
type list struct {
	count int
	held  string
}

// counted tells a list of at most so many things, of so many bits each.
func counted(rest string, most, thingBits int) (list, api.Errno) {
	head, code := first(rest, countBytes)
	if code != api.OK {
		return list{}, code
	}
	count := int64(numberOf(head)) // four bytes, which an int may have no room for
	if count > int64(most) {
		return list{}, api.ErrLimit
	}
	held, code := first(rest[countBytes:], bytesFor(int(count)*thingBits))
	if code != api.OK {
		return list{}, code
	}
	return list{int(count), held}, api.OK
}

// size tells in how many bytes the list lies.
func (l list) size() int { return countBytes + len(l.held) }

// words tells the list's words of so many bits.
func (l list) words(width int) ([]uint64, api.Errno) {
	words := make([]uint64, l.count)
	size := bytesFor(width)
	for i := range words {
		words[i] = numberOf(l.held[i*size : (i+1)*size])
		if words[i]>>width != 0 {
			return nil, api.ErrForm
		}
	}
	return words, api.OK
}
