// Package octet is layer 1: numbers as bytes, the highest first, and bytes held against each other. See 01-octet.md.
package octet

import (
	"shipwright/api"
)

// place is where a Reader is: the bytes that it goes through, and how many of them are behind it.
type place struct {
	bytes []byte
	at    int
}

// Reader goes through bytes, and stops at its first error; Read makes one.
type Reader struct {
	place
	err api.Errno
}

// Put16: P1.1.
func Put16(b []byte, x uint16) []byte {
	return put(b, uint64(x), 2)
}

// Put32: P1.1.
func Put32(b []byte, x uint32) []byte {
	return put(b, uint64(x), 4)
}

// Put64: P1.1.
func Put64(b []byte, x uint64) []byte {
	return put(b, x, 8)
}

// put lays the lowest n bytes of x behind b. It appends nothing to b itself: the room behind its end is the caller's.
func put(b []byte, x uint64, n int) []byte {
	list := make([]byte, len(b)+n)
	copy(list, b)
	for i := len(list) - 1; i >= len(b); i-- {
		list[i] |= byte(x)
		x >>= 8
	}
	return list
}

// Equal: P1.2.
func Equal(a, b []byte) bool {
	if len(a) != len(b) {
		return false
	}
	var unlike byte
	for i, x := range a {
		unlike |= x ^ b[i]
	}
	return unlike == 0
}

// Zero: P1.2.
func Zero(b []byte) bool {
	var bits byte
	for _, x := range b {
		bits |= x
	}
	return bits == 0
}

// Read: P1.3. The bytes are copied, so that a later change of b is not read.
func Read(b []byte) *Reader {
	return &Reader{place: place{bytes: append([]byte(nil), b...)}}
}

// U8: P1.3.
func (r *Reader) U8() byte {
	return byte(r.number(1))
}

// U16: P1.3.
func (r *Reader) U16() uint16 {
	return uint16(r.number(2))
}

// U32: P1.3.
func (r *Reader) U32() uint32 {
	return uint32(r.number(4))
}

// U64: P1.3.
func (r *Reader) U64() uint64 {
	return r.number(8)
}

// Raw: P1.3. The answer is a copy: the Reader's own bytes are not handed out.
func (r *Reader) Raw(n int) []byte {
	return append([]byte(nil), r.take(n)...)
}

// Left: P1.3.
func (r *Reader) Left() int {
	if r == nil {
		return 0
	}
	return len(r.bytes) - r.at
}

// Err: P1.3.
func (r *Reader) Err() api.Errno {
	if r == nil {
		return api.ErrNil
	}
	return r.err
}

// number is the next n bytes as a number; where take gives nothing, it comes to 0.
func (r *Reader) number(n int) uint64 {
	var x uint64
	for _, b := range r.take(n) {
		x <<= 8
		x |= uint64(b)
	}
	return x
}

// take steps over the next n bytes, and answers them as a part of the Reader's own. The number asked for is held against what is left, as a sum with the place could wrap round.
func (r *Reader) take(n int) []byte {
	switch {
	case r.Err() != api.OK:
		return nil
	case n < 0:
		r.err = api.ErrArg
		return nil
	case n > r.Left():
		r.err = api.ErrShort
		return nil
	}
	from := r.at
	r.at += n
	return r.bytes[from:r.at]
}
