// Package octet is layer 1: numbers as bytes, the highest first; bytes held against each other. See 01-octet.md.
package octet

import (
	"gazetteer/api"
)

// place is some bytes, and how many of them are behind the one who reads.
type place struct {
	bytes []byte
	at    int
}

// Reader reads numbers from bytes; its first error stays.
type Reader struct {
	place
	err api.Errno
}

// Put16: P1.1.
func Put16(b []byte, x uint16) []byte {
	return put(b, uint64(x), 2)
}

// Put32: P1.1.
func Put32(b []byte, x uint32) []byte {
	return put(b, uint64(x), 4)
}

// Put64: P1.1.
func Put64(b []byte, x uint64) []byte {
	return put(b, x, 8)
}

// put makes a list of its own: an append to b could write into the room behind b's end, which is the caller's.
func put(b []byte, x uint64, size int) []byte {
	out := make([]byte, len(b)+size)
	copy(out, b)
	for i := len(out) - 1; i >= len(b); i-- {
		out[i] = byte(x)
		x >>= 8
	}
	return out
}

// Equal: P1.2.
func Equal(a, b []byte) bool {
	if len(a) != len(b) {
		return false
	}
	var other byte
	for i, c := range a {
		other |= c ^ b[i]
	}
	return other == 0
}

// Zero: P1.2.
func Zero(b []byte) bool {
	var all byte
	for _, c := range b {
		all |= c
	}
	return all == 0
}

// Read: P1.3. The bytes are copied, so that a change of b is not told by the Reader.
func Read(b []byte) *Reader {
	return &Reader{place: place{bytes: append([]byte(nil), b...)}}
}

// U8: P1.3.
func (r *Reader) U8() byte {
	return byte(r.number(1))
}

// U16: P1.3.
func (r *Reader) U16() uint16 {
	return uint16(r.number(2))
}

// U32: P1.3.
func (r *Reader) U32() uint32 {
	return uint32(r.number(4))
}

// U64: P1.3.
func (r *Reader) U64() uint64 {
	return r.number(8)
}

// Raw: P1.3. What take tells lies in the Reader's own memory, so a copy goes out.
func (r *Reader) Raw(n int) []byte {
	return append([]byte(nil), r.take(n)...)
}

// Left: P1.3.
func (r *Reader) Left() int {
	if r == nil {
		return 0
	}
	return len(r.bytes) - r.at
}

// Err: P1.3.
func (r *Reader) Err() api.Errno {
	if r == nil {
		return api.ErrNil
	}
	return r.err
}

// number is the next size bytes as a number; where take tells nothing it is 0.
func (r *Reader) number(size int) uint64 {
	var x uint64
	for _, c := range r.take(size) {
		x <<= 8
		x |= uint64(c)
	}
	return x
}

// take goes past the next n bytes and tells them. Where it can't, it stays, and the first error is the one that is kept.
func (r *Reader) take(n int) []byte {
	if r.Err() != api.OK {
		return nil
	}
	if n < 0 {
		r.err = api.ErrArg
		return nil
	}
	// held against what is left, as the sum of at and n could wrap round
	if n > r.Left() {
		r.err = api.ErrShort
		return nil
	}
	from := r.at
	r.at += n
	return r.bytes[from:r.at]
}
