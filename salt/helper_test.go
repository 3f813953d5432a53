package salt_test

import (
	"encoding/binary"
	"encoding/hex"
	"math/big"
	"math/bits"
	"slices"
	"testing"
)

// The texts and the key that RFC 8439 uses more than once.
const (
	sunscreen   = "Ladies and Gentlemen of the class of '99: If I could offer you only one tip for the future, sunscreen would be it."
	submission  = "Any submission to the IETF intended by the Contributor for publication as all or part of an IETF Internet-Draft or RFC and any statement made within the context of an IETF activity is considered an \"IETF Contribution\". Such statements include oral statements in IETF sessions, as well as written and electronic communications made at any time or place, which are addressed to"
	jabberwocky = "'Twas brillig, and the slithy toves\nDid gyre and gimble in the wabe:\nAll mimsy were the borogoves,\nAnd the mome raths outgrabe."
	rfcKey      = "1c9240a5eb55d38af333888604f6b5f0473917c1402b80099dca5cbc207075c0"
)

// edges are lengths at the ends of the blocks of tags and of the key stream.
var edges = []int{0, 1, 2, 15, 16, 17, 31, 32, 33, 47, 48, 49, 63, 64, 65, 79, 80, 81, 127, 128, 129, 191, 192, 193, 255, 256, 257}

// pattern returns n bytes that differ from place to place.
func pattern(n int) []byte {
	p := make([]byte, n)
	for i := range p {
		p[i] = byte(i*7 + i/251 + 3)
	}
	return p
}

func unhex(s string) []byte {
	p, err := hex.DecodeString(s)
	if err != nil {
		panic(err)
	}
	return p
}

// key32 and nonce12 read hexadecimal bytes, filled up with zeros in front.
func key32(s string) [32]byte {
	var key [32]byte
	p := unhex(s)
	copy(key[32-len(p):], p)
	return key
}

func nonce12(s string) [12]byte {
	var nonce [12]byte
	p := unhex(s)
	copy(nonce[12-len(p):], p)
	return nonce
}

// rising returns a key whose bytes count from first.
func rising(first byte) [32]byte {
	var key [32]byte
	for i := range key {
		key[i] = first + byte(i)
	}
	return key
}

func checkHex(t *testing.T, what string, got []byte, want string) {
	t.Helper()
	if hex.EncodeToString(got) != want {
		t.Errorf("%s = %x; want %s", what, got, want)
	}
}

func xor(a, b []byte) []byte {
	out := slices.Clone(a)
	for i := range out {
		out[i] ^= b[i]
	}
	return out
}

// blockOf returns a block of the key stream, worked out on the square of RFC 8439, 2.3.
func blockOf(key [32]byte, nonce [12]byte, block uint32) []byte {
	p := append([]byte("expand 32-byte k"), key[:]...)
	p = binary.LittleEndian.AppendUint32(p, block)
	p = append(p, nonce[:]...)
	var square [4][4]uint32
	for i := range 16 {
		square[i/4][i%4] = binary.LittleEndian.Uint32(p[4*i:])
	}
	mixed := square
	for round := range 20 {
		slant := round % 2 // columns, then diagonals
		for i := range 4 {
			cell := func(row int) *uint32 { return &mixed[row][(i+slant*row)%4] }
			a, b, c, d := cell(0), cell(1), cell(2), cell(3)
			for _, turn := range []int{16, 12, 8, 7} {
				*a += *b
				*d = bits.RotateLeft32(*d^*a, turn)
				a, b, c, d = c, d, a, b
			}
		}
	}
	var out []byte
	for i := range 16 {
		out = binary.LittleEndian.AppendUint32(out, mixed[i/4][i%4]+square[i/4][i%4])
	}
	return out
}

// streamOf returns n bytes of the key stream.
func streamOf(key [32]byte, nonce [12]byte, from uint32, n int) []byte {
	out := []byte{}
	for len(out) < n {
		out = append(out, blockOf(key, nonce, from)...)
		from++
	}
	return out[:n]
}

// little returns p as a number, little-endian.
func little(p []byte) *big.Int {
	p = slices.Clone(p)
	slices.Reverse(p)
	return new(big.Int).SetBytes(p)
}

// tagOf returns the tag of p, worked out with big numbers.
func tagOf(key [32]byte, p []byte) [16]byte {
	r := slices.Clone(key[:16])
	for _, i := range []int{3, 7, 11, 15} {
		r[i] &= 15
	}
	for _, i := range []int{4, 8, 12} {
		r[i] &= 252
	}
	factor := little(r)
	prime := new(big.Int).Sub(new(big.Int).Lsh(big.NewInt(1), 130), big.NewInt(5))
	sum := new(big.Int)
	for block := range slices.Chunk(p, 16) {
		sum.Add(sum, little(append(slices.Clone(block), 1)))
		sum.Mul(sum, factor).Mod(sum, prime)
	}
	sum.Add(sum, little(key[16:]))
	out := sum.FillBytes(make([]byte, 32))[16:]
	slices.Reverse(out)
	return [16]byte(out)
}

// closeOf returns the encrypted bytes and the tag, put together as RFC 8439, 2.8 says.
func closeOf(key [32]byte, nonce [12]byte, plain, beside []byte) []byte {
	closed := xor(plain, streamOf(key, nonce, 1, len(plain)))
	padded := func(p []byte) []byte { return append(slices.Clone(p), make([]byte, (16-len(p)%16)%16)...) }
	p := append(padded(beside), padded(closed)...)
	p = binary.LittleEndian.AppendUint64(p, uint64(len(beside)))
	p = binary.LittleEndian.AppendUint64(p, uint64(len(closed)))
	tag := tagOf([32]byte(streamOf(key, nonce, 0, 32)), p)
	return append(closed, tag[:]...)
}
