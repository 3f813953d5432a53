package salt_test

import (
	"bytes"
	"encoding/binary"
	"math/rand/v2"
	"strings"
	"testing"

	"colonnade/salt"
)

// The tags of RFC 8439: 2.5.2 and A.3.
func TestTagVectors(t *testing.T) {
	const (
		half  = "36e5f6b5c5e06070f0efca96227a863e"
		zeros = "00000000000000000000000000000000"
		ones  = "ffffffffffffffffffffffffffffffff"
		one   = "01000000000000000000000000000000"
		two   = "02000000000000000000000000000000"
	)
	text := func(s string) []byte { return []byte(s) }
	for _, x := range []struct {
		key  string
		p    []byte
		want string
	}{
		{"85d6be7857556d337f4452fe42d506a80103808afb0db2fd4abff6af4149f51b", text("Cryptographic Forum Research Group"), "a8061dc1305136c6c22b8baf0c0127a9"},
		{zeros + zeros, make([]byte, 64), zeros},
		{zeros + half, text(submission), half},
		{half + zeros, text(submission), "f3477e7cd95417af89a6b8794c310cf0"},
		{rfcKey, text(jabberwocky), "4541669a7eaaee61e708dc7cbcc5eb62"},
		{two + zeros, unhex(ones), "03000000000000000000000000000000"},
		{two + ones, unhex(two), "03000000000000000000000000000000"},
		{one + zeros, unhex(ones + "f0ffffffffffffffffffffffffffffff" + "11000000000000000000000000000000"), "05000000000000000000000000000000"},
		{one + zeros, unhex(ones + "fbfefefefefefefefefefefefefefefe" + strings.Repeat("01", 16)), zeros},
		{two + zeros, unhex("fdffffffffffffffffffffffffffffff"), "faffffffffffffffffffffffffffffff"},
		{"01000000000000000400000000000000" + zeros, unhex("e33594d7505e43b900000000000000003394d7505e4379cd01000000000000000000000000000000000000000000000001000000000000000000000000000000"), "14000000000000005500000000000000"},
		{"01000000000000000400000000000000" + zeros, unhex("e33594d7505e43b900000000000000003394d7505e4379cd010000000000000000000000000000000000000000000000"), "13000000000000000000000000000000"},
	} {
		tag := salt.Tag(key32(x.key), x.p)
		checkHex(t, "Tag", tag[:], x.want)
	}
}

func TestTagOfEveryLength(t *testing.T) {
	key := key32(rfcKey)
	for n := range 4*64 + 2 {
		p := pattern(n)
		if salt.Tag(key, p) != tagOf(key, p) {
			t.Errorf("Tag of %d bytes is wrong", n)
		}
	}
	for _, n := range []int{1199, 1200, 65535, 65536, 65537, 100000} {
		p := pattern(n)
		if salt.Tag(key, p) != tagOf(key, p) {
			t.Errorf("Tag of %d bytes is wrong", n)
		}
	}
}

// The tag of nothing is the key's second half.
func TestTagOfNothing(t *testing.T) {
	key := rising(0xe5)
	for _, p := range [][]byte{nil, {}, make([]byte, 0, 16)} {
		if tag := salt.Tag(key, p); !bytes.Equal(tag[:], key[16:]) {
			t.Errorf("Tag of nothing = %x", tag)
		}
	}
}

// Zeros at the end count: a block that isn't full isn't filled up with them.
func TestTagOfZeros(t *testing.T) {
	key := rising(1)
	seen := map[[16]byte]bool{}
	for n := range 65 {
		tag := salt.Tag(key, make([]byte, n))
		if tag != tagOf(key, make([]byte, n)) || seen[tag] {
			t.Errorf("Tag of %d zeros = %x", n, tag)
		}
		seen[tag] = true
	}
}

// Every bit of the key has its place: some are cleared, the others matter.
func TestTagOfEveryBitOfKey(t *testing.T) {
	p := pattern(50)
	for i := range 8 * 32 {
		var key [32]byte
		key[i/8] = 1 << (i % 8)
		if tag := salt.Tag(key, p); tag != tagOf(key, p) {
			t.Errorf("Tag with bit %d of the key = %x", i, tag)
		}
	}
	// What is cleared makes no difference.
	full := [32]byte(bytes.Repeat([]byte{0xff}, 32))
	cleared := full
	for i := 0; i < 16; i += 4 {
		cleared[i+3] &= 0x0f
		if i > 0 {
			cleared[i] &= 0xfc
		}
	}
	if salt.Tag(full, p) != salt.Tag(cleared, p) {
		t.Error("bits of the key aren't cleared")
	}
}

// Sums around 2^130 - 5 and 2^128, where carries run through all words.
func TestTagOfExtremes(t *testing.T) {
	random := rand.New(rand.NewPCG(3, 4))
	words := []uint64{0, 1, 2, 4, 5, 1 << 32, 1<<60 - 1, 1 << 63, 1<<64 - 6, 1<<64 - 5, 1<<64 - 4, 1<<64 - 2, 1<<64 - 1}
	some := func(n int) []byte {
		var p []byte
		for len(p) < n {
			p = binary.LittleEndian.AppendUint64(p, words[random.IntN(len(words))])
		}
		return p[:n]
	}
	for range 50000 {
		key, p := [32]byte(some(32)), some(random.IntN(70))
		if tag := salt.Tag(key, p); tag != tagOf(key, p) {
			t.Fatalf("Tag(%x, %x) = %x; want %x", key, p, tag, tagOf(key, p))
		}
	}
}

// With the factor 1 and nothing added at the end, the tag is the sum of the blocks: here some less and some more than 2^130 - 5.
func TestTagAroundPrime(t *testing.T) {
	key := [32]byte{0: 1}
	ones := bytes.Repeat([]byte{0xff}, 16)
	for last := range 256 {
		for _, middle := range []byte{0xfe, 0xff} {
			p := append(bytes.Clone(ones), ones...)
			p[16], p[24] = byte(last), middle
			for _, third := range [][]byte{nil, ones, {0xff}} {
				q := append(bytes.Clone(p), third...)
				if tag := salt.Tag(key, q); tag != tagOf(key, q) {
					t.Errorf("Tag of %x = %x; want %x", q, tag, tagOf(key, q))
				}
			}
		}
	}
}
