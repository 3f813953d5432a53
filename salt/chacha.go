package salt

import "math/bits"

const (
	blockSize = 64
	counterAt = 12 // the word of the state that is the block's number
)

// xorStream applies the key stream, beginning with block from, to p in place.
func xorStream(p []byte, key [32]byte, nonce [12]byte, from uint32) {
	state := newState(key, nonce, from)
	for len(p) > 0 {
		block := keyBlock(state)
		n := min(len(p), blockSize)
		for i := range n {
			p[i] ^= block[i]
		}
		p = p[n:]
		state[counterAt]++
	}
}

// newState returns the state of RFC 8439, 2.3: a constant, the key, the block's number and the nonce.
func newState(key [32]byte, nonce [12]byte, block uint32) [16]uint32 {
	// The constant is the text "expand 32-byte k".
	state := [16]uint32{0x61707865, 0x3320646e, 0x79622d32, 0x6b206574}
	for i := range 8 {
		state[4+i] = word32(key[4*i:])
	}
	state[counterAt] = block
	for i := range 3 {
		state[counterAt+1+i] = word32(nonce[4*i:])
	}
	return state
}

// keyBlock returns the block of the key stream that belongs to the state.
func keyBlock(state [16]uint32) [blockSize]byte {
	// The words are in variables: an array would be moved in memory in every round.
	x0, x1, x2, x3 := state[0], state[1], state[2], state[3]
	x4, x5, x6, x7 := state[4], state[5], state[6], state[7]
	x8, x9, x10, x11 := state[8], state[9], state[10], state[11]
	x12, x13, x14, x15 := state[12], state[13], state[14], state[15]
	for range 10 {
		x0, x4, x8, x12 = quarter(x0, x4, x8, x12)
		x1, x5, x9, x13 = quarter(x1, x5, x9, x13)
		x2, x6, x10, x14 = quarter(x2, x6, x10, x14)
		x3, x7, x11, x15 = quarter(x3, x7, x11, x15)

		x0, x5, x10, x15 = quarter(x0, x5, x10, x15)
		x1, x6, x11, x12 = quarter(x1, x6, x11, x12)
		x2, x7, x8, x13 = quarter(x2, x7, x8, x13)
		x3, x4, x9, x14 = quarter(x3, x4, x9, x14)
	}
	var out [blockSize]byte
	for i, x := range [16]uint32{x0, x1, x2, x3, x4, x5, x6, x7, x8, x9, x10, x11, x12, x13, x14, x15} {
		putWord32(out[4*i:], x+state[i])
	}
	return out
}

// quarter is the quarter round.
func quarter(a, b, c, d uint32) (uint32, uint32, uint32, uint32) {
	a += b
	d = bits.RotateLeft32(d^a, 16)
	c += d
	b = bits.RotateLeft32(b^c, 12)
	a += b
	d = bits.RotateLeft32(d^a, 8)
	c += d
	b = bits.RotateLeft32(b^c, 7)
	return a, b, c, d
}
