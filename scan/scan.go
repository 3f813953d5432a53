// Package scan takes bytes apart for the layers that read packets, frames, messages and objects. It is no layer of its own.
package scan

import (
	"bytes"

	"colonnade/api"
	"colonnade/vint"
)

// longest is the length of the longest encoding of a number.
const longest = 8

// Reader takes what is asked for from the beginning of some bytes. From the first error on, which it keeps, it takes nothing and returns zero values.
type Reader struct {
	left []byte
	e    api.Errno
}

// New returns a reader of p, which must not change while the reader is in use.
func New(p []byte) *Reader {
	return &Reader{left: p}
}

// Byte takes one byte.
func (r *Reader) Byte() byte {
	if p := r.take(1); len(p) == 1 {
		return p[0]
	}
	return 0
}

// Number takes a number in any of its encodings.
func (r *Reader) Number() uint64 {
	if r.e != api.OK {
		return 0
	}
	// Take copies what it leaves, so it is not given everything.
	window := r.left[:min(len(r.left), longest)]
	n, rest, e := vint.Take(window)
	if e != api.OK {
		r.e = e
		return 0
	}
	r.left = r.left[len(window)-len(rest):]
	return n
}

// Bytes takes n bytes and returns a copy of them.
func (r *Reader) Bytes(n uint64) []byte {
	return bytes.Clone(r.take(n))
}

// Must makes ErrForm the error if ok is false and there is no error yet.
func (r *Reader) Must(ok bool) {
	if r.e == api.OK && !ok {
		r.e = api.ErrForm
	}
}

// Need makes ErrShort the error if fewer than n bytes are left and there is no error yet.
func (r *Reader) Need(n uint64) {
	if r.e == api.OK && n > uint64(len(r.left)) {
		r.e = api.ErrShort
	}
}

// Left returns the bytes that were not taken, not copied; after an error there are none.
func (r *Reader) Left() []byte {
	if r.e != api.OK {
		return nil
	}
	return r.left
}

// Errno returns the first error, or OK.
func (r *Reader) Errno() api.Errno {
	return r.e
}

func (r *Reader) take(n uint64) []byte {
	r.Need(n)
	if r.e != api.OK {
		return nil
	}
	p := r.left[:n]
	r.left = r.left[n:]
	return p
}
