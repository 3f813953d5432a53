// Package ring is layer 2, SHA-256, HMAC and HKDF: see shared/doc/02-ring.md.
package ring

import "colonnade/api"

const (
	maxExpand  = 255 * hashSize
	prefix     = "tls13 "
	maxLabel   = 255 - len(prefix)
	maxContext = 255
)

// Sum returns the SHA-256 hash of the concatenated arguments.
func Sum(p ...[]byte) [32]byte {
	d := newDigest()
	for _, x := range p {
		d.write(x)
	}
	return d.sum()
}

// Mac returns the HMAC-SHA-256 of the concatenated arguments.
func Mac(key []byte, p ...[]byte) [32]byte {
	block := keyBlock(key)
	inner := newDigest()
	inner.write(masked(block, 0x36))
	for _, x := range p {
		inner.write(x)
	}
	hash := inner.sum()
	return Sum(masked(block, 0x5c), hash[:])
}

// Extract is HKDF-Extract.
func Extract(salt, key []byte) [32]byte {
	return Mac(salt, key)
}

// Expand is HKDF-Expand.
func Expand(key, info []byte, n int) ([]byte, api.Errno) {
	if e := lengthError(n); e != api.OK {
		return nil, e
	}
	out := make([]byte, 0, n)
	var last []byte
	for i := byte(1); len(out) < n; i++ {
		hash := Mac(key, last, info, []byte{i})
		last = hash[:]
		out = append(out, last[:min(hashSize, n-len(out))]...)
	}
	return out, api.OK
}

// Label is HKDF-Expand-Label of TLS 1.3.
func Label(key []byte, label string, context []byte, n int) ([]byte, api.Errno) {
	if e := lengthError(n); e != api.OK {
		return nil, e
	}
	if len(label) > maxLabel || len(context) > maxContext {
		return nil, api.ErrLong
	}
	info := []byte{byte(n >> 8), byte(n), byte(len(prefix) + len(label))}
	info = append(info, prefix...)
	info = append(info, label...)
	info = append(info, byte(len(context)))
	info = append(info, context...)
	return Expand(key, info, n)
}

// Same reports whether a and b are equal.
func Same(a, b []byte) bool {
	if len(a) != len(b) {
		return false
	}
	// Every byte is looked at, so that the time doesn't tell where secrets differ.
	var diff byte
	for i := range a {
		diff |= a[i] ^ b[i]
	}
	return diff == 0
}

// lengthError returns the error of Expand for n bytes.
func lengthError(n int) api.Errno {
	if n < 0 {
		return api.ErrArg
	}
	if n > maxExpand {
		return api.ErrLong
	}
	return api.OK
}

// keyBlock returns the key in a block of its own: its hash, if the key is longer than the block.
func keyBlock(key []byte) [blockSize]byte {
	var block [blockSize]byte
	if len(key) > blockSize {
		hash := Sum(key)
		key = hash[:]
	}
	copy(block[:], key)
	return block
}

// masked returns the block's bytes, each one xor mask.
func masked(block [blockSize]byte, mask byte) []byte {
	out := make([]byte, blockSize)
	for i := range blockSize {
		out[i] = block[i] ^ mask
	}
	return out
}
