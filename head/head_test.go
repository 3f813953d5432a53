package head_test

import (
	"bytes"
	"encoding/hex"
	"math"
	"math/rand/v2"
	"slices"
	"testing"

	"colonnade/api"
	"colonnade/head"
	"colonnade/vint"
)

func unhex(s string) []byte {
	p, err := hex.DecodeString(s)
	if err != nil {
		panic(err)
	}
	return p
}

// name returns n bytes that differ from place to place.
func name(n int) []byte {
	p := make([]byte, n)
	for i := range p {
		p[i] = byte(0xa0 + i)
	}
	return p
}

func same(a, b api.Head) bool {
	return a.Long == b.Long && a.Level == b.Level && a.Phase == b.Phase && bytes.Equal(a.To, b.To) && bytes.Equal(a.From, b.From)
}

func zero(h api.Head) bool {
	return same(h, api.Head{})
}

// known are headers with their encodings; the second and the third are of RFC 9001, A.2 and A.3.
var known = []struct {
	h    api.Head
	pn   uint64
	size int
	left int
	code string
}{
	{api.Head{Long: true, Level: api.Handshake, To: []byte{1, 2}, From: []byte{3}}, 0x1234, 2, 30, "e100000001020102010340201234"},
	{api.Head{Long: true, Level: api.Initial, To: unhex("8394c8f03e515708")}, 2, 4, 1178, "c300000001088394c8f03e5157080000449e00000002"},
	{api.Head{Long: true, Level: api.Initial, From: unhex("f067a5502a4262b5")}, 1, 2, 115, "c1000000010008f067a5502a4262b50040750001"},
	{api.Head{Long: true, Level: api.Initial}, 0xabcdef0123456789, 1, 0, "c0000000010000004001" + "89"},
	{api.Head{Long: true, Level: api.Handshake}, 0xabcdef0123456789, 3, 16380, "e20000000100007fff" + "456789"},
	{api.Head{Long: true, Level: api.Initial, To: name(20), From: name(20)}, 0xabcdef0123456789, 4, 60, "c300000001" + "14a0a1a2a3a4a5a6a7a8a9aaabacadaeafb0b1b2b3" + "14a0a1a2a3a4a5a6a7a8a9aaabacadaeafb0b1b2b3" + "00" + "4040" + "23456789"},
	{api.Head{Level: api.App, To: name(8)}, 0xabcdef0123456789, 1, 0, "40a0a1a2a3a4a5a6a789"},
	{api.Head{Level: api.App, To: name(8)}, 0xabcdef0123456789, 2, 19, "41a0a1a2a3a4a5a6a76789"},
	{api.Head{Level: api.App, To: name(8), Phase: true}, 0xabcdef0123456789, 3, math.MaxInt, "46a0a1a2a3a4a5a6a7456789"},
	{api.Head{Level: api.App, To: name(8), Phase: true}, 5, 4, 16384, "47a0a1a2a3a4a5a6a700000005"},
}

func TestBytes(t *testing.T) {
	for _, x := range known {
		if p, e := head.Bytes(x.h, x.pn, x.size, x.left); e != api.OK || !bytes.Equal(p, unhex(x.code)) {
			t.Errorf("Bytes(%+v, %x, %d, %d) = %x, %d; want %s", x.h, x.pn, x.size, x.left, p, e, x.code)
		}
	}
}

func TestBytesOfInvalid(t *testing.T) {
	for _, h := range []api.Head{
		{Long: true, Level: api.App},
		{Long: true, Level: api.App, To: name(8)},
		{Long: true, Level: -1},
		{Long: true, Level: 3},
		{Long: true, Level: math.MaxInt},
		{Long: true, Level: api.Initial, To: name(21)},
		{Long: true, Level: api.Handshake, From: name(21)},
		{Long: true, Level: api.Initial, To: name(256)},
		{Long: true, Level: api.Initial, Phase: true},
		{Long: true, Level: api.Handshake, Phase: true},
		{},
		{Level: api.Initial, To: name(8)},
		{Level: api.Handshake, To: name(8)},
		{Level: 3, To: name(8)},
		{Level: -1, To: name(8)},
		{Level: math.MinInt, To: name(8)},
		{Level: api.App},
		{Level: api.App, To: name(7)},
		{Level: api.App, To: name(9)},
		{Level: api.App, To: name(20)},
		{Level: api.App, To: name(8), From: name(1)},
		{Level: api.App, To: name(8), From: name(8), Phase: true},
	} {
		if p, e := head.Bytes(h, 1, 1, 20); e != api.ErrForm || len(p) != 0 {
			t.Errorf("Bytes(%+v) = %x, %d; want ErrForm", h, p, e)
		}
	}
}

// The size and left are checked first, then the length, then the header.
func TestBytesOrder(t *testing.T) {
	long := api.Head{Long: true, Level: api.Initial}
	short := api.Head{Level: api.App, To: name(8)}
	wrong := api.Head{Long: true, Level: api.App, Phase: true, To: name(30)}
	wrongShort := api.Head{Level: api.Initial}
	for _, x := range []struct {
		h          api.Head
		size, left int
		want       api.Errno
	}{
		{long, 0, 20, api.ErrArg},
		{long, 5, 20, api.ErrArg},
		{long, -1, 20, api.ErrArg},
		{long, 8, 20, api.ErrArg},
		{long, math.MinInt, 20, api.ErrArg},
		{long, math.MaxInt, 20, api.ErrArg},
		{long, math.MaxInt, math.MaxInt, api.ErrArg},
		{long, 1, -1, api.ErrArg},
		{long, 1, math.MinInt, api.ErrArg},
		{short, 0, 20, api.ErrArg},
		{short, 5, 20, api.ErrArg},
		{short, 4, -1, api.ErrArg},
		{wrong, 0, 20000, api.ErrArg},
		{wrong, 5, 16383, api.ErrArg},
		{wrong, 1, -1, api.ErrArg},
		{wrongShort, 0, 0, api.ErrArg},
		{long, 1, 16382, api.OK},
		{long, 1, 16383, api.ErrLong},
		{long, 4, 16379, api.OK},
		{long, 4, 16380, api.ErrLong},
		{long, 4, math.MaxInt, api.ErrLong},
		{long, 4, math.MaxInt - 3, api.ErrLong},
		{wrong, 4, 16380, api.ErrLong},
		{wrong, 4, math.MaxInt, api.ErrLong},
		{wrong, 4, 16379, api.ErrForm},
		{short, 4, 16380, api.OK},
		{short, 4, math.MaxInt, api.OK},
		{wrongShort, 4, 16380, api.ErrForm},
		{wrongShort, 4, math.MaxInt, api.ErrForm},
	} {
		if p, e := head.Bytes(x.h, 7, x.size, x.left); e != x.want || e != api.OK && len(p) != 0 {
			t.Errorf("Bytes(%+v, 7, %d, %d) = %x, %d; want %d", x.h, x.size, x.left, p, e, x.want)
		}
	}
}

// packet returns a packet: an encoded header, bytes up to its end, and, after a long one, further bytes.
func packet(t *testing.T, h api.Head, size, left, more int) []byte {
	t.Helper()
	p, e := head.Bytes(h, 0x12345678, size, left)
	if e != api.OK {
		t.Fatalf("Bytes(%+v): %d", h, e)
	}
	return append(p, bytes.Repeat([]byte{0x5a}, left+more)...)
}

func TestReadOfBytes(t *testing.T) {
	for _, level := range []int{api.Initial, api.Handshake} {
		for _, to := range []int{0, 1, 8, 20} {
			for _, from := range []int{0, 1, 8, 20} {
				for _, size := range []int{1, 2, 3, 4} {
					for _, left := range []int{20 - size, 63, 200} {
						for _, more := range []int{0, 1, 50} {
							h := api.Head{Long: true, Level: level, To: name(to), From: name(from)}
							p := packet(t, h, size, left, more)
							got, at, end, e := head.Read(p)
							if e != api.OK || !same(got, h) || end != len(p)-more || at != end-left-size {
								t.Fatalf("Read(%x) = %+v, %d, %d, %d", p, got, at, end, e)
							}
						}
					}
				}
			}
		}
	}
	for _, phase := range []bool{false, true} {
		for _, size := range []int{1, 2, 3, 4} {
			for _, left := range []int{20 - size, 63, 200} {
				h := api.Head{Level: api.App, To: name(8), Phase: phase}
				p := packet(t, h, size, left, 0)
				h.Phase = false
				got, at, end, e := head.Read(p)
				if e != api.OK || !same(got, h) || at != 9 || end != len(p) {
					t.Fatalf("Read(%x) = %+v, %d, %d, %d", p, got, at, end, e)
				}
			}
		}
	}
}

// The bits of the first byte that are masked have no effect, nor has the one that the chapter doesn't name.
func TestReadOfMaskedBits(t *testing.T) {
	long := api.Head{Long: true, Level: api.Handshake, To: name(3), From: name(4)}
	p := packet(t, long, 2, 30, 0)
	for bits := range 16 {
		p[0] = 0xe0 | byte(bits)
		if h, at, end, e := head.Read(p); e != api.OK || !same(h, long) || at != 16 || end != len(p) {
			t.Errorf("Read(%x) = %+v, %d, %d, %d", p, h, at, end, e)
		}
	}
	short := api.Head{Level: api.App, To: name(8)}
	p = packet(t, short, 2, 30, 0)
	for bits := range 64 {
		p[0] = 0x40 | byte(bits)
		if h, at, end, e := head.Read(p); e != api.OK || !same(h, short) || at != 9 || end != len(p) {
			t.Errorf("Read(%x) = %+v, %d, %d, %d", p, h, at, end, e)
		}
	}
}

// The length and the length of the token may have any encoding.
func TestReadOfAnyEncoding(t *testing.T) {
	for _, tokenSize := range []int{1, 2, 4, 8} {
		for _, size := range []int{1, 2, 4, 8} {
			token, _ := vint.Wide(0, tokenSize)
			length, _ := vint.Wide(25, size)
			p := slices.Concat(unhex("c0000000010177020102"), token, length, make([]byte, 25))
			h, at, end, e := head.Read(append(p, 9, 9))
			if e != api.OK || !bytes.Equal(h.To, []byte{0x77}) || !bytes.Equal(h.From, []byte{1, 2}) || end != len(p) || at != end-25 {
				t.Errorf("Read(%x) = %+v, %d, %d, %d", p, h, at, end, e)
			}
		}
	}
	length, _ := vint.Wide(70000, 4)
	p := slices.Concat(unhex("e0000000010000"), length, make([]byte, 70000))
	if h, at, end, e := head.Read(p); e != api.OK || at != 11 || end != len(p) || h.Level != api.Handshake {
		t.Errorf("Read of 70000 bytes = %+v, %d, %d, %d", h, at, end, e)
	}
}

func checkError(t *testing.T, p []byte, want api.Errno) {
	t.Helper()
	if h, at, end, e := head.Read(p); e != want || !zero(h) || at != 0 || end != 0 {
		t.Errorf("Read(%x) = %+v, %d, %d, %d; want %d", p, h, at, end, e, want)
	}
}

// A packet of which bytes are missing is incomplete, wherever it is cut off.
func TestReadOfIncomplete(t *testing.T) {
	for _, h := range []api.Head{
		{Long: true, Level: api.Initial, To: name(8), From: name(8)},
		{Long: true, Level: api.Initial},
		{Long: true, Level: api.Handshake, To: name(20), From: name(20)},
		{Long: true, Level: api.Handshake},
	} {
		p := packet(t, h, 2, 30, 0)
		for n := range len(p) {
			checkError(t, p[:n], api.ErrShort)
		}
	}
	p := packet(t, api.Head{Level: api.App, To: name(8)}, 2, 18, 0)
	for n := range len(p) {
		if n < 9 {
			checkError(t, p[:n], api.ErrShort)
		} else {
			checkError(t, p[:n], api.ErrForm)
		}
	}
	checkError(t, nil, api.ErrShort)
}

func TestReadOfWrong(t *testing.T) {
	rest := hex.EncodeToString(make([]byte, 60))
	for _, x := range []struct {
		what, p string
		want    api.Errno
	}{
		{"no second bit", "00" + rest, api.ErrForm},
		{"no second bit, and nothing more", "00", api.ErrForm},
		{"no second bit, and nothing more", "3f", api.ErrForm},
		{"no second bit, long", "80", api.ErrForm},
		{"no second bit, and a wrong level", "90", api.ErrForm},
		{"no second bit, else right", "8000000001000000401e" + rest, api.ErrForm},
		{"level 1", "d0000000010000401e" + rest, api.ErrForm},
		{"level 1, with a token", "d000000001000000401e" + rest, api.ErrForm},
		{"level 3", "f0000000010000401e" + rest, api.ErrForm},
		{"level 1, and nothing more", "d0", api.ErrForm},
		{"level 3, and nothing more", "ff", api.ErrForm},
		{"no version", "c0", api.ErrShort},
		{"half a version", "c00000", api.ErrShort},
		{"half a version, which is wrong already", "c00500", api.ErrShort},
		{"version 0", "c000000000" + rest, api.ErrForm},
		{"version 0, and nothing more", "c000000000", api.ErrForm},
		{"version 2", "c000000002000000401e" + rest, api.ErrForm},
		{"version 01000000", "e001000000", api.ErrForm},
		{"version 00000101", "e000000101" + rest, api.ErrForm},
		{"To of 21 bytes", "c00000000115" + rest, api.ErrForm},
		{"To of 21 bytes that are missing", "c00000000115", api.ErrForm},
		{"To of 255 bytes", "e000000001ff" + rest, api.ErrForm},
		{"To of 20 bytes that are missing", "c00000000114", api.ErrShort},
		{"From of 21 bytes", "c0000000010015" + rest, api.ErrForm},
		{"From of 21 bytes that are missing", "e0000000010015", api.ErrForm},
		{"From of 21 bytes, To missing", "e00000000102aa", api.ErrShort},
		{"From of 255 bytes", "c000000001017fff", api.ErrForm},
		{"From of 20 bytes that are missing", "c000000001001400", api.ErrShort},
		{"a token", "c000000001000001aa401e" + rest, api.ErrForm},
		{"a token that is missing", "c000000001000001", api.ErrForm},
		{"a token of 0 bytes in two, of which one is missing", "c000000001000040", api.ErrShort},
		{"a token's length, of which one byte is missing", "c00000000100007f", api.ErrShort},
		{"a token of 64 bytes", "c0000000010000404000" + rest, api.ErrForm},
		{"no length", "c0000000010000" + "00", api.ErrShort},
		{"half a length", "c0000000010000" + "00" + "40", api.ErrShort},
		{"a length beyond the end", "e0000000010000" + "403d" + rest, api.ErrShort},
		{"a length up to the end", "e0000000010000" + "403c" + rest, api.OK},
		{"the greatest length", "e0000000010000" + "ffffffffffffffff" + rest, api.ErrShort},
		{"the greatest length of an int32", "e0000000010000" + "bfffffff" + rest, api.ErrShort},
		{"20 bytes", "e0000000010000" + "14" + rest, api.OK},
		{"19 bytes", "e0000000010000" + "13" + rest, api.ErrForm},
		{"19 bytes, of Initial", "c0000000010000" + "004013" + rest, api.ErrForm},
		{"no bytes", "e0000000010000" + "00" + rest, api.ErrForm},
		{"no bytes, and nothing more", "e0000000010000" + "00", api.ErrForm},
		{"19 bytes, all there", "e0000000010000" + "13" + rest[:2*19], api.ErrForm},
		{"19 bytes, one missing", "e0000000010000" + "13" + rest[:2*18], api.ErrShort},
		{"short, no name", "40", api.ErrShort},
		{"short, half a name", "4000000000000000", api.ErrShort},
		{"short, no number", "400000000000000000", api.ErrForm},
		{"short, 19 bytes", "400000000000000000" + rest[:2*19], api.ErrForm},
		{"short, 20 bytes", "400000000000000000" + rest[:2*20], api.OK},
	} {
		if x.want != api.OK {
			checkError(t, unhex(x.p), x.want)
		}
		if _, _, _, e := head.Read(unhex(x.p)); e != x.want {
			t.Errorf("Read of %s: %d; want %d", x.what, e, x.want)
		}
	}
}

// What Read takes as a header is what Bytes writes, but for the masked bits and the encodings of lengths.
func TestReadOfAnyBytes(t *testing.T) {
	random := rand.New(rand.NewPCG(4, 1))
	found := 0
	for range 200000 {
		p := make([]byte, random.IntN(90))
		for i := range p {
			p[i] = byte(random.Uint32())
		}
		if len(p) > 8 && random.IntN(8) > 0 {
			copy(p[1:], []byte{0, 0, 0, 1, byte(random.IntN(4)), 0, 0, 0})
			p[0] |= 0x40
		}
		h, at, end, e := head.Read(p)
		if e != api.OK {
			if e != api.ErrShort && e != api.ErrForm || !zero(h) || at != 0 || end != 0 {
				t.Fatalf("Read(%x) = %+v, %d, %d, %d", p, h, at, end, e)
			}
			continue
		}
		found++
		if at+20 > end || end > len(p) || !h.Long && end != len(p) {
			t.Fatalf("Read(%x) = %+v, %d, %d", p, h, at, end)
		}
		q, e := head.Bytes(h, 0, 1, end-at-1)
		if e != api.OK {
			t.Fatalf("Bytes(%+v) as read from %x: %d", h, p, e)
		}
		h2, _, _, e := head.Read(append(q, make([]byte, end-at-1)...))
		if e != api.OK || !same(h, h2) {
			t.Fatalf("Read(%x) = %+v, but then %+v, %d", p, h, h2, e)
		}
	}
	if found < 1000 {
		t.Errorf("only %d headers were read", found)
	}
}

// Arguments stay as they are with their spare capacity, and no result shares memory with them or with another one.
func TestMemory(t *testing.T) {
	to, from := name(60), name(60)
	for _, h := range []api.Head{
		{Long: true, Level: api.Initial, To: to[:5], From: from[:6]},
		{Level: api.App, To: to[:8]},
		{Long: true, Level: api.Initial, To: to[:0], From: from[:0]},
	} {
		p := packet(t, h, 2, 30, 0)
		if !bytes.Equal(to, name(60)) || !bytes.Equal(from, name(60)) {
			t.Fatal("Bytes changed a name")
		}
		whole := append(p, name(40)...)
		before := slices.Clone(whole)
		a, _, _, _ := head.Read(whole[:len(p)])
		b, _, _, _ := head.Read(whole[:len(p)])
		if !bytes.Equal(whole, before) {
			t.Fatal("Read changed its argument")
		}
		apart(t, whole, a.To, a.From, b.To, b.From)
		apart(t, to, from, p, packet(t, h, 2, 30, 0))
	}
}

// apart checks that none of the slices changes when another one is overwritten with its spare capacity.
func apart(t *testing.T, all ...[]byte) {
	t.Helper()
	for i, x := range all {
		kept := make([][]byte, len(all))
		for j, y := range all {
			kept[j] = slices.Clone(y[:cap(y)])
		}
		for k := range x[:cap(x)] {
			x[:cap(x)][k] ^= 0xff
		}
		for j, y := range all {
			if i != j && !bytes.Equal(y[:cap(y)], kept[j]) {
				t.Errorf("slice %d shares memory with slice %d", i, j)
			}
		}
		copy(x[:cap(x)], kept[i])
	}
}
