package ring_test

import (
	"bytes"
	"crypto/hkdf"
	"crypto/hmac"
	"crypto/sha256"
	"encoding/hex"
	"math"
	"math/rand/v2"
	"slices"
	"strings"
	"testing"

	"colonnade/api"
	"colonnade/ring"
)

// pattern returns n bytes that differ from place to place.
func pattern(n int) []byte {
	p := make([]byte, n)
	for i := range p {
		p[i] = byte(i*7 + i/251)
	}
	return p
}

func unhex(s string) []byte {
	p, err := hex.DecodeString(s)
	if err != nil {
		panic(err)
	}
	return p
}

func checkHex(t *testing.T, what string, got []byte, want string) {
	t.Helper()
	if hex.EncodeToString(got) != want {
		t.Errorf("%s = %x; want %s", what, got, want)
	}
}

// The vectors of FIPS 180-4.
func TestSumVectors(t *testing.T) {
	for _, x := range []struct{ text, want string }{
		{"", "e3b0c44298fc1c149afbf4c8996fb92427ae41e4649b934ca495991b7852b855"},
		{"abc", "ba7816bf8f01cfea414140de5dae2223b00361a396177a9cb410ff61f20015ad"},
		{"abcdbcdecdefdefgefghfghighijhijkijkljklmklmnlmnomnopnopq", "248d6a61d20638b8e5c026930c3e6039a33ce45964ff2167f6ecedd419db06c1"},
		{strings.Repeat("a", 1000000), "cdc76e5c9914fb9281a1c7e284d73e67f1809a48a497200e046d39ccc7112cd0"},
	} {
		sum := ring.Sum([]byte(x.text))
		checkHex(t, "Sum", sum[:], x.want)
	}
}

func TestSumOfNothing(t *testing.T) {
	want := sha256.Sum256(nil)
	for i, p := range [][][]byte{nil, {}, {nil}, {{}}, {nil, {}, nil}} {
		if ring.Sum(p...) != want {
			t.Errorf("Sum of nothing (%d) is wrong", i)
		}
	}
}

// All lengths up to several blocks, the ends of blocks and of their padding among them.
func TestSumOfEveryLength(t *testing.T) {
	for n := range 4*64 + 2 {
		p := pattern(n)
		if ring.Sum(p) != sha256.Sum256(p) {
			t.Errorf("Sum of %d bytes is wrong", n)
		}
	}
}

// Where the arguments are split doesn't matter.
func TestSumOfSeveral(t *testing.T) {
	for _, n := range []int{0, 1, 55, 56, 57, 63, 64, 65, 119, 120, 127, 128, 129, 200} {
		p := pattern(n)
		want := sha256.Sum256(p)
		for cut := range n + 1 {
			if ring.Sum(p[:cut], p[cut:]) != want || ring.Sum(nil, p[:cut], nil, p[cut:], nil) != want {
				t.Errorf("Sum of %d bytes, split at %d, is wrong", n, cut)
			}
		}
		if ring.Sum(slices.Collect(slices.Chunk(p, 1))...) != want {
			t.Errorf("Sum of %d bytes, one by one, is wrong", n)
		}
	}
	if ring.Sum([]byte("a"), []byte("bc")) == ring.Sum([]byte("a"), []byte("cb")) {
		t.Error("Sum doesn't depend on the second argument")
	}
}

// The vectors of RFC 4231 that aren't cut.
func TestMacVectors(t *testing.T) {
	long := bytes.Repeat([]byte{0xaa}, 131)
	for _, x := range []struct {
		key  []byte
		text string
		want string
	}{
		{bytes.Repeat([]byte{0x0b}, 20), "Hi There", "b0344c61d8db38535ca8afceaf0bf12b881dc200c9833da726e9376c2e32cff7"},
		{[]byte("Jefe"), "what do ya want for nothing?", "5bdcc146bf60754e6a042426089575c75a003f089d2739839dec58b964ec3843"},
		{bytes.Repeat([]byte{0xaa}, 20), strings.Repeat("\xdd", 50), "773ea91e36800e46854db8ebd09181a72959098b3ef8c122d9635514ced565fe"},
		{long, "Test Using Larger Than Block-Size Key - Hash Key First", "60e431591ee0b67f0d8a26aacbf5b77f8e0bc6213728c5140546040f0ee37f54"},
		{long, "This is a test using a larger than block-size key and a larger than block-size data. The key needs to be hashed before being used by the HMAC algorithm.", "9b09ffa71b942fcb27635fbcd5b0e944bfdc63644f0713938a7f51535c3a35e2"},
	} {
		mac := ring.Mac(x.key, []byte(x.text))
		checkHex(t, "Mac", mac[:], x.want)
	}
}

func hmacOf(key []byte, p ...[]byte) []byte {
	h := hmac.New(sha256.New, key)
	for _, x := range p {
		h.Write(x)
	}
	return h.Sum(nil)
}

func TestMacOfEveryKey(t *testing.T) {
	for n := range 3*64 + 2 {
		key := pattern(n)
		for _, m := range []int{0, 1, 55, 56, 64, 130} {
			mac := ring.Mac(key, pattern(m))
			if !bytes.Equal(mac[:], hmacOf(key, pattern(m))) {
				t.Errorf("Mac of %d bytes by a key of %d is wrong", m, n)
			}
		}
	}
}

// A key of one block is used as it is; a longer one is hashed.
func TestMacOfLongKeys(t *testing.T) {
	for _, n := range []int{65, 100, 1000} {
		key := pattern(n)
		hashed := ring.Sum(key)
		if ring.Mac(key, []byte("x")) != ring.Mac(hashed[:], []byte("x")) {
			t.Errorf("a key of %d bytes isn't hashed", n)
		}
	}
	key := pattern(64)
	hashed := ring.Sum(key)
	if ring.Mac(key, []byte("x")) == ring.Mac(hashed[:], []byte("x")) {
		t.Error("a key of 64 bytes is hashed")
	}
}

func TestMacOfSeveral(t *testing.T) {
	key := []byte("key")
	if ring.Mac(nil) != [32]byte(hmacOf(nil)) || ring.Mac(key) != [32]byte(hmacOf(key)) || ring.Mac(key, nil, nil) != ring.Mac(key) {
		t.Error("Mac of nothing is wrong")
	}
	p := pattern(150)
	want := [32]byte(hmacOf(key, p))
	for cut := range len(p) + 1 {
		if ring.Mac(key, p[:cut], nil, p[cut:]) != want {
			t.Errorf("Mac, split at %d, is wrong", cut)
		}
	}
}

// The vectors of RFC 5869 for SHA-256.
func TestHKDFVectors(t *testing.T) {
	run := func(from, to int) []byte {
		var p []byte
		for i := from; i <= to; i++ {
			p = append(p, byte(i))
		}
		return p
	}
	key := bytes.Repeat([]byte{0x0b}, 22)
	for _, x := range []struct {
		salt, key, info []byte
		n               int
		prk, okm        string
	}{
		{run(0x00, 0x0c), key, run(0xf0, 0xf9), 42, "077709362c2e32df0ddc3f0dc47bba6390b6c73bb50f9c3122ec844ad7c2b3e5",
			"3cb25f25faacd57a90434f64d0362f2a2d2d0a90cf1a5a4c5db02d56ecc4c5bf34007208d5b887185865"},
		{run(0x60, 0xaf), run(0x00, 0x4f), run(0xb0, 0xff), 82, "06a6b88c5853361a06104c9ceb35b45cef760014904671014a193f40c15fc244",
			"b11e398dc80327a1c8e7f78c596a49344f012eda2d4efad8a050cc4c19afa97c59045a99cac7827271cb41c65e590e09da3275600c2f09b8367793a9aca3db71cc30c58179ec3e87c14c01d5c1f3434f1d87"},
		{nil, key, nil, 42, "19ef24a32c717b167f33a91d6f648bdf96596776afdb6377ac434c1c293ccb04",
			"8da4e775a563c18f715f802a063c5a31b8a11f5c5ee1879ec3454e5f3c738d2d9d201395faa4b61a96c8"},
	} {
		prk := ring.Extract(x.salt, x.key)
		checkHex(t, "Extract", prk[:], x.prk)
		okm, e := ring.Expand(prk[:], x.info, x.n)
		checkHex(t, "Expand", okm, x.okm)
		if e != api.OK {
			t.Errorf("Expand: %d", e)
		}
	}
}

func TestExtract(t *testing.T) {
	for _, n := range []int{0, 1, 32, 63, 64, 65, 130} {
		salt, key := pattern(n), pattern(n+5)
		want, err := hkdf.Extract(sha256.New, key, salt)
		prk := ring.Extract(salt, key)
		if err != nil || !bytes.Equal(prk[:], want) {
			t.Errorf("Extract with a salt of %d bytes is wrong", n)
		}
	}
	// A salt that isn't given is as many zeros as a hash has.
	if ring.Extract(nil, []byte("k")) != ring.Extract(make([]byte, 32), []byte("k")) {
		t.Error("Extract without a salt is wrong")
	}
	if ring.Extract([]byte("s"), nil) == ring.Extract(nil, []byte("s")) {
		t.Error("Extract takes its arguments for each other")
	}
}

func TestExpandOfEveryLength(t *testing.T) {
	key, info := pattern(32), pattern(11)
	want, err := hkdf.Expand(sha256.New, key, string(info), 8160)
	if err != nil {
		t.Fatal(err)
	}
	for _, n := range []int{0, 1, 2, 31, 32, 33, 63, 64, 65, 96, 255, 256, 257, 1000, 8128, 8129, 8159, 8160} {
		p, e := ring.Expand(key, info, n)
		if e != api.OK || !bytes.Equal(p, want[:n]) {
			t.Errorf("Expand to %d bytes: %d bytes, %d", n, len(p), e)
		}
	}
}

func TestExpandOfAnyKey(t *testing.T) {
	for _, n := range []int{0, 1, 31, 32, 64, 65, 200} {
		key := pattern(n)
		for _, m := range []int{0, 1, 64, 500} {
			info := pattern(m)
			want, err := hkdf.Expand(sha256.New, key, string(info), 100)
			p, e := ring.Expand(key, info, 100)
			if err != nil || e != api.OK || !bytes.Equal(p, want) {
				t.Errorf("Expand with a key of %d bytes and an info of %d is wrong", n, m)
			}
		}
	}
}

var wrongLengths = []struct {
	n int
	e api.Errno
}{
	{-1, api.ErrArg}, {-8160, api.ErrArg}, {math.MinInt32, api.ErrArg}, {math.MinInt, api.ErrArg},
	{8161, api.ErrLong}, {65536, api.ErrLong}, {1 << 40, api.ErrLong}, {math.MaxInt, api.ErrLong},
}

func TestExpandOfWrongLength(t *testing.T) {
	for _, x := range wrongLengths {
		for _, key := range [][]byte{nil, pattern(32)} {
			if p, e := ring.Expand(key, nil, x.n); e != x.e || len(p) != 0 {
				t.Errorf("Expand to %d bytes: %d bytes, %d; want %d", x.n, len(p), e, x.e)
			}
		}
	}
}

// The keys of RFC 9001, A.1.
func TestLabelVectors(t *testing.T) {
	initial := ring.Extract(unhex("38762cf7f55934b34d179ae6a4c80cadccbb7f0a"), unhex("8394c8f03e515708"))
	checkHex(t, "the initial secret", initial[:], "7db5df06e7a69e432496adedb00851923595221596ae2ae9fb8115c1e9ed0a44")
	client, _ := ring.Label(initial[:], "client in", nil, 32)
	checkHex(t, "the client's secret", client, "c00cf151ca5be075ed0ebfb5c80323c42d6b7db67881289af4008f1f6c357aea")
	server, _ := ring.Label(initial[:], "server in", nil, 32)
	checkHex(t, "the server's secret", server, "3c199828fd139efd216c155ad844cc81fb82fa8d7446fa7d78be803acdda951b")
	key, _ := ring.Label(client, "quic key", nil, 16)
	checkHex(t, "the key", key, "1f369613dd76d5467730efcbe3b1a22d")
	iv, _ := ring.Label(client, "quic iv", nil, 12)
	checkHex(t, "the nonce", iv, "fa044b2f42a3fd3b46fb255c")
}

// labelInfo returns the info of RFC 8446, 7.1.
func labelInfo(label string, context []byte, n int) string {
	name := "tls13 " + label
	return string([]byte{byte(n / 256), byte(n % 256), byte(len(name))}) + name + string([]byte{byte(len(context))}) + string(context)
}

func TestLabel(t *testing.T) {
	key := pattern(32)
	labels := []string{"", "x", "key", strings.Repeat("l", 248), strings.Repeat("l", 249), "\x00\xff\xfe"}
	for _, label := range labels {
		for _, m := range []int{0, 1, 32, 254, 255} {
			context := pattern(m)
			for _, n := range []int{0, 1, 12, 32, 40, 255, 256, 300, 8160} {
				want, err := hkdf.Expand(sha256.New, key, labelInfo(label, context, n), n)
				p, e := ring.Label(key, label, context, n)
				if err != nil || e != api.OK || !bytes.Equal(p, want) {
					t.Errorf("Label of %d, %d and %d bytes is wrong (%d)", len(label), m, n, e)
				}
			}
		}
	}
}

// What a label and a context are together doesn't tell which is which.
func TestLabelOfParts(t *testing.T) {
	a, _ := ring.Label(nil, "ab", []byte("c"), 32)
	b, _ := ring.Label(nil, "a", []byte("bc"), 32)
	c, _ := ring.Label(nil, "ab", []byte("c"), 33)
	if bytes.Equal(a, b) || bytes.Equal(a, c[:32]) {
		t.Error("Label doesn't bind its parts")
	}
}

func TestLabelOfWrongLength(t *testing.T) {
	for _, x := range wrongLengths {
		if p, e := ring.Label(pattern(32), "x", nil, x.n); e != x.e || len(p) != 0 {
			t.Errorf("Label to %d bytes: %d bytes, %d; want %d", x.n, len(p), e, x.e)
		}
		// The length's error comes before the label's.
		if p, e := ring.Label(nil, strings.Repeat("l", 250), pattern(256), x.n); e != x.e || len(p) != 0 {
			t.Errorf("Label to %d bytes with a long label: %d bytes, %d; want %d", x.n, len(p), e, x.e)
		}
	}
	for _, x := range []struct{ label, context int }{{250, 0}, {256, 0}, {1000, 0}, {0, 256}, {0, 1000}, {250, 256}, {249, 256}, {250, 255}} {
		for _, n := range []int{0, 32, 8160} {
			if p, e := ring.Label(nil, strings.Repeat("l", x.label), pattern(x.context), n); e != api.ErrLong || len(p) != 0 {
				t.Errorf("Label of %d and %d bytes: %d bytes, %d; want ErrLong", x.label, x.context, len(p), e)
			}
		}
	}
}

func TestSame(t *testing.T) {
	for _, n := range []int{0, 1, 2, 16, 32, 100} {
		a, b := pattern(n), pattern(n)
		if !ring.Same(a, b) || !ring.Same(a, a) {
			t.Errorf("%d equal bytes aren't the same", n)
		}
		if ring.Same(a, append(b, 0)) || ring.Same(append(b, 0), a) {
			t.Errorf("%d bytes and one more are the same", n)
		}
		for i := range n {
			for bit := range 8 {
				b[i] ^= 1 << bit
				if ring.Same(a, b) {
					t.Errorf("%d bytes that differ at %d are the same", n, i)
				}
				b[i] ^= 1 << bit
			}
		}
	}
	if !ring.Same(nil, nil) || !ring.Same(nil, []byte{}) || ring.Same(nil, []byte{0}) {
		t.Error("nothing isn't the same as nothing")
	}
	// Differences don't cancel each other out.
	if ring.Same([]byte{1, 2}, []byte{2, 1}) || ring.Same([]byte{1, 1}, []byte{0, 0}) {
		t.Error("bytes that differ twice are the same")
	}
}

// What a call answers depends on its arguments, not on the calls before it.
func TestCallsAreApart(t *testing.T) {
	random := rand.New(rand.NewPCG(5, 6))
	for range 300 {
		key, p := pattern(random.IntN(150)), pattern(random.IntN(300))
		if ring.Sum(p) != sha256.Sum256(p) || ring.Mac(key, p) != [32]byte(hmacOf(key, p)) {
			t.Fatalf("a call with %d and %d bytes is wrong after others", len(key), len(p))
		}
	}
}

// roomy returns n bytes with spare capacity, and the whole of it.
func roomy(n int) ([]byte, []byte) {
	whole := pattern(n + 80)
	return whole[:n], whole
}

// Arguments stay as they are with their spare capacity, and results share no memory with them or with each other.
func TestMemory(t *testing.T) {
	for _, n := range []int{0, 10, 64, 100} {
		key, wholeKey := roomy(n)
		info, wholeInfo := roomy(n + 3)
		list := make([][]byte, 2, 5)
		list[0], list[1] = info, key
		ring.Sum(list...)
		ring.Mac(key, list...)
		ring.Extract(key, info)
		ring.Same(key, info)
		a, _ := ring.Expand(key, info, 70)
		b, _ := ring.Expand(key, info, 70)
		c, _ := ring.Label(key, "label", info, 70)
		if !bytes.Equal(wholeKey, pattern(n+80)) || !bytes.Equal(wholeInfo, pattern(n+83)) || list[:3][2] != nil {
			t.Fatalf("an argument of %d bytes was changed", n)
		}
		wantB, wantC := slices.Clone(b), slices.Clone(c)
		for _, p := range [][]byte{wholeKey, wholeInfo, a[:cap(a)]} {
			for i := range p {
				p[i] ^= 0xff
			}
		}
		if !bytes.Equal(b, wantB) || !bytes.Equal(c, wantC) {
			t.Errorf("results share memory")
		}
	}
}
