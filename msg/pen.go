package msg

import (
	"trefoil/api"
	"trefoil/shape"
	"trefoil/wire"
)

// pen goes through fields, one behind the other. One that writes is given what a field is, writes it and tells it; one that reads tells what it read, whatever it is given.
type pen interface {
	u8(field string, x uint8) uint8
	u32(field string, x uint32) uint32
	u64(field string, x uint64) uint64
	raw(field string, n int, s string) string
	words(field string, width, most int, l []uint64) []uint64
	class(field string, c api.Class) api.Class
	fail(field string, code api.Errno)
}

// writing is a pen that writes. It has no faults: what it is given was checked.
type writing struct{ w *wire.Writer }

func (p writing) u8(_ string, x uint8) uint8 {
	p.w.U8(x)
	return x
}

func (p writing) u32(_ string, x uint32) uint32 {
	p.w.U32(x)
	return x
}

func (p writing) u64(_ string, x uint64) uint64 {
	p.w.U64(x)
	return x
}

func (p writing) raw(_ string, _ int, s string) string {
	p.w.Raw(s)
	return s
}

func (p writing) words(_ string, width, _ int, l []uint64) []uint64 {
	p.w.Words(width, l)
	return l
}

func (p writing) class(_ string, c api.Class) api.Class {
	shape.Put(p.w, c)
	return c
}

func (p writing) fail(string, api.Errno) {}

// reading is a pen that reads. Behind its first fault it tells zeros.
type reading struct{ r *wire.Reader }

func (p reading) u8(field string, _ uint8) uint8 { return p.r.U8(field) }

func (p reading) u32(field string, _ uint32) uint32 { return p.r.U32(field) }

func (p reading) u64(field string, _ uint64) uint64 { return p.r.U64(field) }

func (p reading) raw(field string, n int, _ string) string { return p.r.Raw(field, n) }

func (p reading) words(field string, width, most int, _ []uint64) []uint64 {
	return p.r.Words(field, width, most)
}

func (p reading) class(field string, _ api.Class) api.Class { return shape.Get(p.r, field) }

func (p reading) fail(field string, code api.Errno) { p.r.Fail(field, code) }
