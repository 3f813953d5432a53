package parcel

import (
	"bytes"

	"colonnade/api"
	"colonnade/head"
	"colonnade/salt"
)

// The bits of a first byte.
const (
	longBit       = 0x80
	longMasked    = 0x0f
	shortMasked   = 0x1f
	longReserved  = 0x0c
	shortReserved = 0x18
	phaseBit      = 0x04 // of a short header
	sizeBits      = 0x03
)

const (
	mostSize = 4 // of a packet number
	sampleAt = 4 // from the beginning of the packet number, as if that had its most bytes
	tagSize  = 16
)

// bare is a packet whose header was unmasked, with the bytes after it. What isn't the header's is not copied.
type bare struct {
	head   api.Head
	header []byte // up to the end of the packet number
	cut    uint64
	size   int
	closed []byte
	rest   []byte
}

// unmask returns the packet at the beginning of p.
func unmask(p []byte, key [32]byte) (bare, api.Errno) {
	h, at, end, e := head.Read(p)
	if e != api.OK {
		return bare{}, e
	}
	mask := maskOf(p, at, key)
	first := maskFirst(p[0], mask)
	size := int(first&sizeBits) + 1
	header := bytes.Clone(p[:at+size])
	header[0] = first
	maskNumber(header[at:], mask)
	h.Phase = !h.Long && first&phaseBit != 0
	return bare{h, header, number(header[at:]), size, p[at+size : end], p[end:]}, api.OK
}

// maskOf returns the mask of the packet at the beginning of p, whose number begins at at.
func maskOf(p []byte, at int, key [32]byte) [5]byte {
	return salt.Mask(key, [16]byte(p[at+sampleAt:]))
}

// maskFirst returns the first byte masked, or unmasked if it was masked.
func maskFirst(first byte, mask [5]byte) byte {
	if first&longBit != 0 {
		return first ^ mask[0]&longMasked
	}
	return first ^ mask[0]&shortMasked
}

// maskNumber masks the bytes of a packet number, or unmasks them if they were masked.
func maskNumber(p []byte, mask [5]byte) {
	for i := range p {
		p[i] ^= mask[1+i]
	}
}

// reserved returns the bits of the first byte that must be zero.
func reserved(long bool) byte {
	if long {
		return longReserved
	}
	return shortReserved
}

// number returns the bytes as a number, big-endian.
func number(p []byte) uint64 {
	var n uint64
	for _, b := range p {
		n = n<<8 | uint64(b)
	}
	return n
}
