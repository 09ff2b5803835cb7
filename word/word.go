// Package word is layer 2, values as bytes, the lowest one first: see shared/doc/02-word.md.
package word

import (
	"slices"

	"tripwire/api"
)

// span is what a kind's numbers are: of so many bytes, from one to another.
type span struct {
	size      int
	low, high int64
}

// spanOf is a kind's span; the zero value, if it is no kind of numbers.
func spanOf(k api.Kind) span {
	switch k {
	case api.Bool:
		return span{1, 0, 1}
	case api.U8:
		return span{1, 0, 1<<8 - 1}
	case api.U16:
		return span{2, 0, 1<<16 - 1}
	case api.U32:
		return span{4, 0, 1<<32 - 1}
	case api.I8:
		return span{1, -1 << 7, 1<<7 - 1}
	case api.I16:
		return span{2, -1 << 15, 1<<15 - 1}
	case api.I32:
		return span{4, -1 << 31, 1<<31 - 1}
	}
	return span{}
}

// Size is how many bytes a kind's numbers have.
func Size(k api.Kind) int { return spanOf(k).size }

// Low is a kind's least number.
func Low(k api.Kind) int64 { return spanOf(k).low }

// High is its greatest one.
func High(k api.Kind) int64 { return spanOf(k).high }

// Fits: is a number one of a kind's?
func Fits(k api.Kind, n int64) bool {
	s := spanOf(k)
	return s.size > 0 && s.low <= n && n <= s.high
}

// Put is a number's bytes.
func Put(k api.Kind, n int64) ([]byte, api.Errno) {
	if !Fits(k, n) {
		return nil, api.ErrArg
	}
	b := make([]byte, Size(k))
	for i := range b {
		b[i] = byte(n >> (8 * i))
	}
	return b, api.OK
}

// Get is the number of some bytes.
func Get(k api.Kind, b []byte) (int64, api.Errno) {
	size := Size(k)
	if size == 0 {
		return 0, api.ErrArg
	}
	if len(b) != size {
		return 0, api.ErrLen
	}
	n := int64(0)
	for i, x := range b {
		n |= int64(x) << (8 * i)
	}
	if n > High(k) {
		n -= 1 << (8 * size) // the one number below 0 of which these bytes are left
	}
	if !Fits(k, n) {
		return 0, api.ErrForm
	}
	return n, api.OK
}

// Flip is bytes with each bit turned.
func Flip(b []byte) []byte {
	l := make([]byte, len(b))
	for i, x := range b {
		l[i] = ^x
	}
	return l
}

// first holds the first error, behind which nothing is done any more.
type first struct{ errno api.Errno }

// fails takes what a step answered: is it an error, or was there one ahead of it?
func (f *first) fails(e api.Errno) bool {
	if f.errno == api.OK {
		f.errno = e
	}
	return f.errno != api.OK
}

// told is the first error.
func (f *first) told() api.Errno { return f.errno }

// Writer puts bytes one behind the other.
type Writer struct {
	first
	bytes []byte
}

// Err tells the first error.
func (w *Writer) Err() api.Errno {
	if w == nil { // a promoted call would panic here
		return api.ErrNil
	}
	return w.told()
}

// Num puts a number.
func (w *Writer) Num(k api.Kind, n int64) {
	b, e := Put(k, n)
	if w == nil || w.fails(e) {
		return
	}
	w.bytes = append(w.bytes, b...)
}

// Raw puts bytes.
func (w *Writer) Raw(b []byte) {
	if w == nil || w.fails(api.OK) {
		return
	}
	w.bytes = append(w.bytes, b...)
}

// Bytes is what was put.
func (w *Writer) Bytes() []byte {
	if w == nil {
		return nil
	}
	return slices.Clone(w.bytes)
}

// Reader goes through bytes.
type Reader struct {
	first
	left []byte
}

// New is a reader.
func New(b []byte) *Reader { return &Reader{left: slices.Clone(b)} }

// Err tells the first error.
func (r *Reader) Err() api.Errno {
	if r == nil { // a promoted call would panic here
		return api.ErrNil
	}
	return r.told()
}

// Num reads a number.
func (r *Reader) Num(k api.Kind) int64 {
	if r == nil {
		return 0
	}
	n, e := r.next(k)
	if r.fails(e) {
		return 0
	}
	r.left = r.left[Size(k):]
	return n
}

// next is the number that stands there, which is not read by that.
func (r *Reader) next(k api.Kind) (int64, api.Errno) {
	size := Size(k)
	if size == 0 {
		return 0, api.ErrArg // ahead of ErrEnd: there may be too few bytes, too
	}
	if e := r.lacks(size); e != api.OK {
		return 0, e
	}
	return Get(k, r.left[:size])
}

// Raw reads bytes.
func (r *Reader) Raw(n int) []byte {
	if r == nil || r.fails(r.lacks(n)) {
		return nil
	}
	b := slices.Clone(r.left[:n])
	r.left = r.left[n:]
	return b
}

// lacks is the error of reading so many bytes: these need not be there.
func (r *Reader) lacks(n int) api.Errno {
	if n < 0 {
		return api.ErrArg
	}
	if n > len(r.left) {
		return api.ErrEnd
	}
	return api.OK
}

// Left is how many bytes are left.
func (r *Reader) Left() int {
	if r == nil {
		return 0
	}
	return len(r.left)
}
