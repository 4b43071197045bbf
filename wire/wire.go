// Package wire is layer 1: see shared/doc/01-wire.md.
package wire

import (
	"slices"

	"rematch/api"
)

// MaxInt is the greatest number that Int reads.
const MaxInt = 1<<31 - 1

// mostGroups is how many bytes a varint has at most.
const mostGroups = 10

// Put puts a varint behind bytes.
func Put(b []byte, n uint64) []byte {
	b = apart(b)
	for n >= 128 {
		b = append(b, byte(n)|128)
		n >>= 7
	}
	return append(b, byte(n))
}

// PutSigned puts a zigzag's varint.
func PutSigned(b []byte, n int64) []byte {
	return Put(b, uint64(n)<<1^uint64(n>>63))
}

// PutFixed puts four bytes.
func PutFixed(b []byte, n uint32) []byte {
	return append(apart(b), byte(n>>24), byte(n>>16), byte(n>>8), byte(n))
}

// PutText puts a text, and how long it is ahead of it.
func PutText(b []byte, s string) []byte {
	return append(Put(b, uint64(len(s))), s...)
}

// apart leaves no room behind the bytes, so that what is appended goes into new memory.
func apart(b []byte) []byte {
	return b[:len(b):len(b)]
}

// Reader reads bytes.
type Reader struct {
	bytes []byte
	at    int
	err   api.Errno
}

// Of is a reader of bytes.
func Of(b []byte) *Reader {
	return &Reader{bytes: slices.Clone(b)}
}

// reading hands what reads a keeper of faults: at a fault the place is the one from before.
func reading[T any](r *Reader, read func(fail func(api.Errno)) T) T {
	var none T
	if r == nil || r.err != api.OK {
		return none
	}
	from := r.at
	got := read(func(e api.Errno) {
		if r.err == api.OK {
			r.err = e
		}
	})
	if r.err != api.OK {
		r.at = from
		return none
	}
	return got
}

// varint reads one; behind a fault what it answers means nothing.
func (r *Reader) varint(fail func(api.Errno)) uint64 {
	var n uint64
	size := 0
groups:
	for {
		if r.at+size >= len(r.bytes) {
			fail(api.ErrShort)
			break groups
		}
		c := r.bytes[r.at+size]
		n |= uint64(c&127) << (7 * size)
		size++
		switch {
		case size == mostGroups && c > 1, size > 1 && c == 0:
			fail(api.ErrForm)
			break groups
		case c < 128:
			break groups
		}
	}
	r.at += size
	return n
}

// piece is a view of the next bytes, none at a fault.
func (r *Reader) piece(n uint64, fail func(api.Errno)) []byte {
	if n > uint64(len(r.bytes)-r.at) {
		fail(api.ErrShort)
		return nil
	}
	from := r.at
	r.at += int(n)
	return r.bytes[from:r.at]
}

// Num is a varint.
func (r *Reader) Num() uint64 {
	return reading(r, r.varint)
}

// Int is one that is not too great.
func (r *Reader) Int() int {
	return reading(r, func(fail func(api.Errno)) int {
		n := r.varint(fail)
		if n > MaxInt {
			fail(api.ErrForm)
		}
		return int(n)
	})
}

// Signed is a zigzag's.
func (r *Reader) Signed() int64 {
	n := r.Num()
	return int64(n>>1) ^ -int64(n&1)
}

// Fixed is four bytes'.
func (r *Reader) Fixed() uint32 {
	return reading(r, func(fail func(api.Errno)) uint32 {
		var n uint32
		for _, c := range r.piece(4, fail) {
			n = n<<8 | uint32(c)
		}
		return n
	})
}

// Text is a text of at most so many bytes.
func (r *Reader) Text(most int) string {
	return reading(r, func(fail func(api.Errno)) string {
		n := r.varint(fail)
		if r.err != api.OK {
			return ""
		}
		if most < 0 || n > uint64(most) {
			fail(api.ErrForm)
			return ""
		}
		return string(r.piece(n, fail))
	})
}

// Bytes are so many.
func (r *Reader) Bytes(n int) []byte {
	return reading(r, func(fail func(api.Errno)) []byte {
		if n < 0 {
			fail(api.ErrForm)
			return nil
		}
		return slices.Clone(r.piece(uint64(n), fail))
	})
}

// At is the place.
func (r *Reader) At() int {
	if r == nil {
		return 0
	}
	return r.at
}

// Left is how many bytes are.
func (r *Reader) Left() int {
	if r == nil {
		return 0
	}
	return len(r.bytes) - r.at
}

// Err is the first error.
func (r *Reader) Err() api.Errno {
	if r == nil {
		return api.ErrNil
	}
	return r.err
}

// End is the error, also if bytes are left.
func (r *Reader) End() api.Errno {
	if e := r.Err(); e != api.OK {
		return e
	}
	if r.Left() > 0 {
		return api.ErrForm
	}
	return api.OK
}
