package salt_test

import (
	"bytes"
	"math/rand/v2"
	"slices"
	"testing"

	"colonnade/api"
	"colonnade/salt"
)

// The vectors of RFC 8439, 2.8.2 and A.5, of RFC 9001, A.5, and of nothing at all.
func TestSealVectors(t *testing.T) {
	for _, x := range []struct {
		key, nonce, beside, text, want string
	}{
		{
			"808182838485868788898a8b8c8d8e8f909192939495969798999a9b9c9d9e9f", "070000004041424344454647", "50515253c0c1c2c3c4c5c6c7", sunscreen,
			"d31a8d34648e60db7b86afbc53ef7ec2a4aded51296e08fea9e2b5a736ee62d63dbea45e8ca9671282fafb69da92728b1a71de0a9e060b2905d6a5b67ecd3b3692ddbd7f2d778b8c9803aee328091b58fab324e4fad675945585808b4831d7bc3ff4def08e4b7a9de576d26586cec64b61161ae10b594f09e26a7e902ecbd0600691",
		},
		{
			rfcKey, "0102030405060708", "f33388860000000000004e91",
			"Internet-Drafts are draft documents valid for a maximum of six months and may be updated, replaced, or obsoleted by other documents at any time. It is inappropriate to use Internet-Drafts as reference material or to cite them other than as /\u201cwork in progress./\u201d",
			"64a0861575861af460f062c79be643bd5e805cfd345cf389f108670ac76c8cb24c6cfc18755d43eea09ee94e382d26b0bdb7b73c321b0100d4f03b7f355894cf332f830e710b97ce98c8a84abd0b948114ad176e008d33bd60f982b1ff37c8559797a06ef4f0ef61c186324e2b3506383606907b6a7c02b0f9f6157b53c867e4b9166c767b804d46a59b5216cde7a4e99040c5a40433225ee282a1b0a06c523eaf4534d7f83fa1155b0047718cbc546a0d072b04b3564eea1b422273f548271a0bb2316053fa76991955ebd63159434ecebb4e466dae5a1073a6727627097a1049e617d91d361094fa68f0ff77987130305beaba2eda04df997b714d6c6f2c29a6ad5cb4022b02709beead9d67890cbb22392336fea1851f38",
		},
		{
			"c6d98ff3441c3fe1b2182094f69caa2ed4b716b65488960a7a984979fb23e1c8", "e0459b3474bdd0e46d417eb0", "4200bff4", "\x01",
			"655e5cd55c41f69080575d7999c25a5bfb",
		},
		{"", "", "", "", "4eb972c9a8fb3a1b382bb4d36f5ffad1"},
	} {
		key, nonce, beside := key32(x.key), nonce12(x.nonce), unhex(x.beside)
		checkHex(t, "Close", salt.Close(key, nonce, []byte(x.text), beside), x.want)
		plain, e := salt.Open(key, nonce, unhex(x.want), beside)
		if e != api.OK || string(plain) != x.text {
			t.Errorf("Open = %q, %d; want %q", plain, e, x.text)
		}
	}
}

// checkSeal closes a text, compares it with the other way's result, and opens it.
func checkSeal(t *testing.T, key [32]byte, nonce [12]byte, plain, beside []byte) {
	t.Helper()
	p := salt.Close(key, nonce, plain, beside)
	if len(p) != len(plain)+16 || !bytes.Equal(p, closeOf(key, nonce, plain, beside)) {
		t.Errorf("Close of %d bytes beside %d is wrong", len(plain), len(beside))
	}
	q, e := salt.Open(key, nonce, p, beside)
	if e != api.OK || !bytes.Equal(q, plain) {
		t.Errorf("Open of Close of %d bytes beside %d: %d bytes, %d", len(plain), len(beside), len(q), e)
	}
}

func TestSealOfEveryLength(t *testing.T) {
	key, nonce := rising(0x33), nonce12("a1a2a3a4a5a6a7a8a9aaabac")
	for _, n := range edges {
		for _, m := range edges {
			checkSeal(t, key, nonce, pattern(n), pattern(m + 1)[1:])
		}
	}
	for n := range 4*64 + 2 {
		checkSeal(t, key, nonce, pattern(n), pattern(5))
		checkSeal(t, key, nonce, pattern(5), pattern(n))
	}
}

// Texts may be longer than what Stream returns, and have more blocks than two bytes count.
func TestSealOfLongTexts(t *testing.T) {
	key, nonce := rising(0x44), nonce12("07")
	for _, n := range []int{1184, 65519, 65520, 65535, 65536, 65537, 65600, 200000, 65536*64 + 65} {
		checkSeal(t, key, nonce, pattern(n), pattern(21))
	}
	checkSeal(t, key, nonce, pattern(21), pattern(70000))
}

func TestSealOfNothing(t *testing.T) {
	key, nonce := rising(2), nonce12("03")
	want := closeOf(key, nonce, nil, nil)
	for _, nothing := range [][]byte{nil, {}, make([]byte, 0, 20)} {
		p := salt.Close(key, nonce, nothing, nothing)
		if !bytes.Equal(p, want) {
			t.Errorf("Close of nothing = %x; want %x", p, want)
		}
		if q, e := salt.Open(key, nonce, p, nothing); e != api.OK || len(q) != 0 {
			t.Errorf("Open of nothing = %x, %d", q, e)
		}
	}
}

func TestSealOfAny(t *testing.T) {
	random := rand.New(rand.NewPCG(5, 6))
	some := func(n int) []byte {
		p := make([]byte, n)
		for i := range p {
			p[i] = byte(random.Uint32())
		}
		return p
	}
	for range 2000 {
		checkSeal(t, [32]byte(some(32)), [12]byte(some(12)), some(random.IntN(200)), some(random.IntN(60)))
	}
}

// refuse checks that p isn't opened, because of e.
func refuse(t *testing.T, what string, key [32]byte, nonce [12]byte, p, beside []byte, want api.Errno) {
	t.Helper()
	if q, e := salt.Open(key, nonce, p, beside); e != want || len(q) != 0 {
		t.Errorf("%s: Open returns %d bytes, %d; want %d", what, len(q), e, want)
	}
}

// flipped calls try for each bit of p, while that bit is changed.
func flipped(p []byte, try func(bit int)) {
	for i := range 8 * len(p) {
		p[i/8] ^= 1 << (i % 8)
		try(i)
		p[i/8] ^= 1 << (i % 8)
	}
}

// Every bit counts, of the text, of the tag, of what is beside, of the key and of the nonce.
func TestOpenOfChanged(t *testing.T) {
	key, nonce := rising(0x21), nonce12("0b0a09080706050403020100")
	for _, n := range []int{0, 1, 15, 16, 17, 63, 64, 65, 100} {
		for _, m := range []int{0, 1, 15, 16, 17, 64} {
			p, beside := salt.Close(key, nonce, pattern(n), pattern(m)), pattern(m)
			try := func(int) { t.Helper(); refuse(t, "a changed bit", key, nonce, p, beside, api.ErrSeal) }
			flipped(p, try)
			flipped(beside, try)
			flipped(key[:], try)
			flipped(nonce[:], try)
			if _, e := salt.Open(key, nonce, p, beside); e != api.OK {
				t.Errorf("what was changed back isn't opened: %d", e)
			}
		}
	}
}

// Differences don't cancel each other out.
func TestOpenOfTagChangedTwice(t *testing.T) {
	key, nonce := rising(0x22), nonce12("01")
	p := salt.Close(key, nonce, pattern(20), pattern(3))
	for i := range 16 {
		for j := range i {
			q := slices.Clone(p)
			q[20+i] ^= 0x81
			q[20+j] ^= 0x81
			refuse(t, "a tag changed twice", key, nonce, q, pattern(3), api.ErrSeal)
		}
	}
	q := slices.Clone(p)
	slices.Reverse(q[20:])
	refuse(t, "a reversed tag", key, nonce, q, pattern(3), api.ErrSeal)
	copy(q[20:], make([]byte, 16))
	refuse(t, "a tag of zeros", key, nonce, q, pattern(3), api.ErrSeal)
}

// Bytes can't be added, left out, or moved from the text to beside it.
func TestOpenOfMoved(t *testing.T) {
	key, nonce := rising(0x23), nonce12("02")
	for _, n := range []int{0, 1, 15, 16, 17, 32, 64, 70} {
		beside := pattern(n)
		p := salt.Close(key, nonce, pattern(n), beside)
		tag := p[n:]
		refuse(t, "a byte more", key, nonce, append(slices.Clone(p), 0), beside, api.ErrSeal)
		refuse(t, "a byte more in front", key, nonce, append([]byte{0}, p...), beside, api.ErrSeal)
		refuse(t, "a zero more in the text", key, nonce, slices.Insert(slices.Clone(p), n, 0), beside, api.ErrSeal)
		refuse(t, "a zero more beside", key, nonce, p, append(slices.Clone(beside), 0), api.ErrSeal)
		refuse(t, "a zero more in front of beside", key, nonce, p, append([]byte{0}, beside...), api.ErrSeal)
		for i := range n {
			refuse(t, "a shorter text", key, nonce, slices.Concat(p[:i], tag), beside, api.ErrSeal)
			refuse(t, "fewer bytes beside", key, nonce, p, beside[:i], api.ErrSeal)
			refuse(t, "bytes moved beside", key, nonce, slices.Concat(p[i+1:n], tag), slices.Concat(beside, p[:i+1]), api.ErrSeal)
		}
		for i := n; i < len(p); i++ {
			want := api.ErrSeal
			if i < 16 {
				want = api.ErrShort
			}
			refuse(t, "a shorter tag", key, nonce, p[:i], beside, want)
		}
	}
}

// Zeros at the end of the text or beside it are counted, although both are filled up with zeros for the tag.
func TestSealOfZeros(t *testing.T) {
	key, nonce := rising(0x24), nonce12("03")
	seen := map[[16]byte]bool{}
	for n := range 33 {
		for m := range 33 {
			p := salt.Close(key, nonce, make([]byte, n), make([]byte, m))
			tag := [16]byte(p[n:])
			if seen[tag] {
				t.Errorf("%d zeros beside %d have the tag of others", n, m)
			}
			seen[tag] = true
		}
	}
}

func TestOpenOfShort(t *testing.T) {
	key, nonce := rising(0x25), nonce12("04")
	closed := salt.Close(key, nonce, nil, nil)
	refuse(t, "nil", key, nonce, nil, nil, api.ErrShort)
	for n := range 16 {
		for _, m := range []int{0, 1, 16, 100} {
			refuse(t, "a short text", key, nonce, pattern(n), pattern(m), api.ErrShort)
			refuse(t, "a part of a tag", key, nonce, closed[:n], pattern(m), api.ErrShort)
			// What lies in the spare capacity doesn't count.
			refuse(t, "a part of a tag", key, nonce, append(slices.Clone(closed), 1, 2)[:n], nil, api.ErrShort)
		}
	}
	for _, n := range []int{16, 17, 31, 32, 33, 64, 80, 81, 65552, 100000} {
		refuse(t, "a text that nobody closed", key, nonce, pattern(n), nil, api.ErrSeal)
		refuse(t, "zeros", key, nonce, make([]byte, n), nil, api.ErrSeal)
	}
}
