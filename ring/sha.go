package ring

import "math/bits"

const (
	hashSize   = 32
	blockSize  = 64
	roundCount = 64
)

// start is the hash before the first block: the fractional parts of the square roots of the first 8 primes.
var start = [8]uint32{
	0x6a09e667, 0xbb67ae85, 0x3c6ef372, 0xa54ff53a, 0x510e527f, 0x9b05688c, 0x1f83d9ab, 0x5be0cd19,
}

// rounds are the constants of the rounds: the fractional parts of the cube roots of the first 64 primes.
var rounds = [roundCount]uint32{
	0x428a2f98, 0x71374491, 0xb5c0fbcf, 0xe9b5dba5, 0x3956c25b, 0x59f111f1, 0x923f82a4, 0xab1c5ed5,
	0xd807aa98, 0x12835b01, 0x243185be, 0x550c7dc3, 0x72be5d74, 0x80deb1fe, 0x9bdc06a7, 0xc19bf174,
	0xe49b69c1, 0xefbe4786, 0x0fc19dc6, 0x240ca1cc, 0x2de92c6f, 0x4a7484aa, 0x5cb0a9dc, 0x76f988da,
	0x983e5152, 0xa831c66d, 0xb00327c8, 0xbf597fc7, 0xc6e00bf3, 0xd5a79147, 0x06ca6351, 0x14292967,
	0x27b70a85, 0x2e1b2138, 0x4d2c6dfc, 0x53380d13, 0x650a7354, 0x766a0abb, 0x81c2c92e, 0x92722c85,
	0xa2bfe8a1, 0xa81a664b, 0xc24b8b70, 0xc76c51a3, 0xd192e819, 0xd6990624, 0xf40e3585, 0x106aa070,
	0x19a4c116, 0x1e376c08, 0x2748774c, 0x34b0bcb5, 0x391c0cb3, 0x4ed8aa4a, 0x5b9cca4f, 0x682e6ff3,
	0x748f82ee, 0x78a5636f, 0x84c87814, 0x8cc70208, 0x90befffa, 0xa4506ceb, 0xbef9a3f7, 0xc67178f2,
}

// digest is a SHA-256 hash under way.
type digest struct {
	state [8]uint32
	block [blockSize]byte
	held  int    // bytes of block that are in use
	total uint64 // bytes written
}

func newDigest() *digest {
	return &digest{state: start}
}

func (d *digest) write(p []byte) {
	d.total += uint64(len(p))
	for len(p) > 0 {
		n := copy(d.block[d.held:], p)
		d.held += n
		p = p[n:]
		if d.held == blockSize {
			d.mix()
		}
	}
}

// sum pads what was written and returns its hash. Nothing may be written afterwards.
func (d *digest) sum() [hashSize]byte {
	const lengthAt = blockSize - 8
	length := d.total * 8
	d.write([]byte{0x80})
	if d.held > lengthAt {
		d.fill(blockSize)
		d.mix()
	}
	d.fill(lengthAt)
	for i := range 8 {
		d.block[lengthAt+i] = byte(length >> (56 - 8*i))
	}
	d.mix()
	var out [hashSize]byte
	for i := range out {
		out[i] = byte(d.state[i/4] >> (24 - 8*(i%4)))
	}
	return out
}

// fill sets the bytes of the block that aren't in use, up to end, to zero.
func (d *digest) fill(end int) {
	clear(d.block[d.held:end])
}

// mix takes the full block into the state and empties it.
func (d *digest) mix() {
	d.state = compress(d.state, d.schedule())
	d.held = 0
}

// compress returns the state after the block with these words.
func compress(state [8]uint32, words [roundCount]uint32) [8]uint32 {
	// The state is in variables, as FIPS 180-4 names them: an array would be moved in memory in every round.
	a, b, c, d := state[0], state[1], state[2], state[3]
	e, f, g, h := state[4], state[5], state[6], state[7]
	for i := range roundCount {
		choice := e&f ^ ^e&g
		sumE := bits.RotateLeft32(e, -6) ^ bits.RotateLeft32(e, -11) ^ bits.RotateLeft32(e, -25)
		majority := a&b ^ a&c ^ b&c
		sumA := bits.RotateLeft32(a, -2) ^ bits.RotateLeft32(a, -13) ^ bits.RotateLeft32(a, -22)
		t := h + sumE + choice + rounds[i] + words[i]
		h, g, f, e = g, f, e, d+t
		d, c, b, a = c, b, a, t+sumA+majority
	}
	for i, x := range [8]uint32{a, b, c, d, e, f, g, h} {
		state[i] += x
	}
	return state
}

// schedule expands the block to a word for each round.
func (d *digest) schedule() [roundCount]uint32 {
	var w [roundCount]uint32
	for i := range 16 {
		b := d.block[4*i : 4*i+4]
		w[i] = uint32(b[0])<<24 | uint32(b[1])<<16 | uint32(b[2])<<8 | uint32(b[3])
	}
	for i := 16; i < len(w); i++ {
		x, y := w[i-15], w[i-2]
		s0 := bits.RotateLeft32(x, -7) ^ bits.RotateLeft32(x, -18) ^ x>>3
		s1 := bits.RotateLeft32(y, -17) ^ bits.RotateLeft32(y, -19) ^ y>>10
		w[i] = w[i-16] + s0 + w[i-7] + s1
	}
	return w
}
