package msg

import (
	"trefoil/api"
	"trefoil/shape"
)

// mostOfPart is how many numbers a part of a share may have: those of the greatest matrix.
const mostOfPart = api.MaxDim * api.MaxDim

// parts goes through a message's parts in their order, and tells the message with what the pen tells of each. Messages are written and read by it alone, so that both go by one order.
func parts(p pen, m Msg) Msg {
	m.Kind = int(p.u8("kind", uint8(m.Kind)))
	switch m.Kind {
	default:
		p.fail("kind", api.ErrKind)
	case Start:
		m = withMany(p, withBatch(p, m))
		m.Opened = p.u32("opened", m.Opened)
	case Cols:
		m = withColumns(p, withChunk(p, m))
	case Corr:
		m = withChunk(p, m)
		m.Width = p.u8("width", m.Width)
		m.Words = p.words("words", int(m.Width), mostWords, m.Words)
	case Commit:
		m = withBatch(p, m)
		m.Digest = block(p, "digest", m.Digest)
	case Reveal:
		m = withBatch(p, m)
		m.Seed = block(p, "seed", m.Seed)
	case Open:
		m = withBatch(p, m)
		m.Class = p.class("class", m.Class)
		m.Shares = shares(p, m.Class, m.Shares)
	case Verdict:
		m = withCode(p, withBatch(p, m))
	case Mark:
		m = withMany(p, m)
	case Want, Grant:
		m = withMany(p, withTicket(p, m))
		m.First = p.u32("first", m.First)
	case Ack:
		m = withTicket(p, m)
	case Deny:
		m = withTicket(p, m)
		fallthrough
	case Abort:
		m = withCode(p, m)
	}
	return m
}

func withBatch(p pen, m Msg) Msg {
	m.Batch = p.u32("batch", m.Batch)
	return m
}

// withChunk is withBatch, and which chunk of the batch.
func withChunk(p pen, m Msg) Msg {
	m = withBatch(p, m)
	m.Chunk = p.u32("chunk", m.Chunk)
	return m
}

func withTicket(p pen, m Msg) Msg {
	m.Ticket = p.u32("ticket", m.Ticket)
	return m
}

func withCode(p pen, m Msg) Msg {
	m.Code = p.u8("code", m.Code)
	return m
}

// withMany goes through a class, and how many of it.
func withMany(p pen, m Msg) Msg {
	m.Class = p.class("class", m.Class)
	m.Count = p.u32("count", m.Count)
	return m
}

// withColumns goes through a chunk's columns. How many bytes they have hangs on Count: one that is too great is a fault ahead of them.
func withColumns(p pen, m Msg) Msg {
	m.From = p.u64("from", m.From)
	m.Count = p.u32("count", m.Count)
	if m.Count > api.MaxChunk {
		p.fail("count", api.ErrLimit)
	}
	m.Data = p.raw("data", ColSize(m.Count), m.Data)
	return m
}

// block goes through 32 bytes.
func block(p pen, field string, b [32]byte) [32]byte {
	copy(b[:], p.raw(field, len(b), string(b[:])))
	return b
}

// shares goes through how many shares there are, and each of them.
func shares(p pen, c api.Class, l []api.Share) []api.Share {
	count := p.u32("shares", uint32(len(l)))
	if count > api.MaxBatch {
		p.fail("shares", api.ErrLimit)
		return nil
	}
	all := make([]api.Share, count) // new ones: those that are handed in stay as they are
	copy(all, l)
	widthA, widthB, widthC := shape.Widths(c)
	for i, s := range all {
		all[i] = api.Share{
			A: p.words("a", widthA, mostOfPart, s.A),
			B: p.words("b", widthB, mostOfPart, s.B),
			C: p.words("c", widthC, mostOfPart, s.C),
		}
	}
	return all
}
