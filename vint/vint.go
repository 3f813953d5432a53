// Package vint is layer 1, the variable-length integers of QUIC: see shared/doc/01-vint.md.
package vint

import (
	"bytes"
	"math/bits"

	"colonnade/api"
)

// Num returns the minimal encoding of n.
func Num(n uint64) ([]byte, api.Errno) {
	size := Size(n)
	if size == 0 {
		return nil, api.ErrLong
	}
	return Wide(n, size)
}

// Wide returns the encoding of n that has size bytes.
func Wide(n uint64, size int) ([]byte, api.Errno) {
	switch size {
	case 1, 2, 4, 8:
	default:
		return nil, api.ErrArg
	}
	if n >= bound(size) {
		return nil, api.ErrLong
	}
	p := make([]byte, size)
	for i := range size {
		p[size-1-i] = byte(n >> (8 * i))
	}
	p[0] |= byte(bits.TrailingZeros(uint(size))) << 6
	return p, api.OK
}

// Take returns the number at the beginning of p and the bytes after it.
func Take(p []byte) (uint64, []byte, api.Errno) {
	n, size := read(p)
	if size == 0 {
		return 0, nil, api.ErrShort
	}
	return n, bytes.Clone(p[size:]), api.OK
}

// Size returns the length of the minimal encoding of n, or 0 if n has no encoding.
func Size(n uint64) int {
	for size := 1; size <= 8; size *= 2 {
		if n < bound(size) {
			return size
		}
	}
	return 0
}

// Least reports whether p begins with a complete and minimal encoding.
func Least(p []byte) bool {
	n, size := read(p)
	return size > 0 && size == Size(n)
}

// Text returns the minimal encoding of the length of t, followed by t.
func Text(t []byte) []byte {
	p, _ := Num(uint64(len(t)))
	return append(p, t...)
}

// TakeText returns the bytes that follow their encoded length at the beginning of p, at most most, and the bytes after them.
func TakeText(p []byte, most int) ([]byte, []byte, api.Errno) {
	n, size := read(p)
	if size == 0 {
		return nil, nil, api.ErrShort
	}
	if most < 0 || n > uint64(most) {
		return nil, nil, api.ErrLong
	}
	rest := p[size:]
	if n > uint64(len(rest)) {
		return nil, nil, api.ErrShort
	}
	return bytes.Clone(rest[:n]), bytes.Clone(rest[n:]), api.OK
}

// bound returns the least number that size bytes can't encode.
func bound(size int) uint64 {
	return 1 << (8*size - 2)
}

// read returns the number at the beginning of p and the length of its encoding, both 0 if the encoding is incomplete.
func read(p []byte) (uint64, int) {
	if len(p) == 0 {
		return 0, 0
	}
	size := 1 << (p[0] >> 6)
	if len(p) < size {
		return 0, 0
	}
	n := uint64(p[0] & 0x3f)
	for _, b := range p[1:size] {
		n = n<<8 | uint64(b)
	}
	return n, size
}
