package parcel_test

import (
	"bytes"
	"math"
	"testing"

	"colonnade/api"
	"colonnade/parcel"
)

// known is a packet and what it is closed from.
type known struct {
	k     parcel.Keys
	h     api.Head
	pn    uint64
	size  int
	plain string
	code  string
}

// knownPackets were closed by another implementation of ChaCha20-Poly1305.
func knownPackets() []known {
	client, server := firstKeys()
	app := rfcKeys()
	return []known{
		{client, api.Head{Long: true, Level: api.Initial, To: unhex(rfcName)}, 2, 4, "hello, world",
			"c400000001088394c8f03e51570800004020a95a996325d5b90898fd6e35cdef69e07df2bbc8dff8b80e23bea4d5f169e7e3"},
		{server, api.Head{Long: true, Level: api.Initial, From: unhex("f067a5502a4262b5")}, 1, 2, "ab",
			"c9000000010008f067a5502a4262b5004014f37c2d5c6fa0fb88bc39f18e01d05a818642e954"},
		{server, api.Head{Long: true, Level: api.Handshake, To: []byte{1, 2}, From: []byte{3}}, 0x123456789abc, 3, "\x01",
			"e8000000010201020103401459f98a285cd366419890156e4fbd0ae5b3132c6c"},
		{app, short(false), rfcNumber, 3, "\x01",
			"5c31323334353637383a871c653a297d5fc30ae12e6c7c10477e7c91aa"},
		{app, short(true), api.MaxNum, 1, "abc",
			"4b3132333435363738047b3fb8116b23661084d22d5309e6fceb66d23b"},
		{app, short(true), 300, 2, "hello, world",
			"413132333435363738a044c887efbae253603cc4aa39cd914f774f8d0b2c90da66ccf7b1a6ce12"},
		{app, short(false), 0, 4, "",
			"48313233343536373835b9203a0265c735efbc80977bf34cd7aef8a069"},
	}
}

func TestClose(t *testing.T) {
	for _, x := range knownPackets() {
		if p, e := parcel.Close(x.k, x.h, x.pn, x.size, []byte(x.plain)); e != api.OK || !bytes.Equal(p, unhex(x.code)) {
			t.Errorf("Close(%+v, %x, %d, %q) = %x, %d; want %s", x.h, x.pn, x.size, x.plain, p, e, x.code)
		}
	}
}

// Every header and size, with as few bytes as may be and more.
func TestCloseOfEveryHeader(t *testing.T) {
	k := rfcKeys()
	for _, h := range heads() {
		for size := 1; size <= 4; size++ {
			for _, n := range []int{4 - size, 5 - size, 15, 16, 17, 64, 1000} {
				for _, pn := range []uint64{0, 1, 255, 256, 0x123456789, 1<<61 + 7, api.MaxNum - 1, api.MaxNum} {
					want := packOf(k, headerOf(t, h, pn, size, n), pn, size, pattern(n))
					if p := mustClose(t, k, h, pn, size, pattern(n)); !bytes.Equal(p, want) {
						t.Errorf("Close(%+v, %x, %d, %d bytes) = %x; want %x", h, pn, size, n, p, want)
					}
				}
			}
		}
	}
}

// Masks change no more of the first byte than its lowest four bits, or five, and the bytes of the number.
func TestCloseMasks(t *testing.T) {
	for _, h := range heads() {
		for size := 1; size <= 4; size++ {
			var changed byte
			numbers := make([]byte, size)
			for pn := range uint64(200) {
				header := headerOf(t, h, pn, size, 3)
				p := mustClose(t, rfcKeys(), h, pn, size, pattern(3))
				changed |= p[0] ^ header[0]
				at := len(header) - size
				if !bytes.Equal(p[1:at], header[1:at]) {
					t.Fatalf("Close(%+v, %x, %d) masks %x to %x", h, pn, size, header, p)
				}
				for i := range numbers {
					numbers[i] |= p[at+i] ^ header[at+i]
				}
			}
			want := byte(0x1f)
			if h.Long {
				want = 0x0f
			}
			if changed != want || !bytes.Equal(numbers, bytes.Repeat([]byte{0xff}, size)) {
				t.Errorf("Close(%+v, size %d) masks the bits %x of the first byte and %x of the number", h, size, changed, numbers)
			}
		}
	}
}

// A short packet may be longer than any datagram; a long one is as long as its length says at most.
func TestCloseOfMany(t *testing.T) {
	k := rfcKeys()
	plain := pattern(100000)
	p := mustClose(t, k, short(true), 7, 2, plain)
	if len(p) != 1+8+2+len(plain)+16 {
		t.Errorf("the packet has %d bytes", len(p))
	}
	checkOpen(t, k, p, 6, short(true), 7, plain, nil)

	h := long(api.Initial, 8, 8)
	plain = pattern(16383 - 16 - 4)
	p = mustClose(t, k, h, 7, 4, plain)
	checkOpen(t, k, p, 6, h, 7, plain, nil)
}

// The number and the size are checked first, then that there are enough bytes, then what head.Bytes checks.
func TestCloseOrder(t *testing.T) {
	wrong := api.Head{Long: true, Level: api.App}
	wrongShort := api.Head{Level: api.App, To: pattern(7)}
	for _, x := range []struct {
		h    api.Head
		pn   uint64
		size int
		n    int
		want api.Errno
	}{
		{short(false), api.MaxNum + 1, 1, 20, api.ErrArg},
		{short(false), math.MaxUint64, 4, 20, api.ErrArg},
		{short(false), 1, 0, 20, api.ErrArg},
		{short(false), 1, -1, 20, api.ErrArg},
		{short(false), 1, 5, 20, api.ErrArg},
		{short(false), 1, 8, 20, api.ErrArg},
		{short(false), 1, math.MinInt, 20, api.ErrArg},
		{short(false), 1, math.MaxInt, 20, api.ErrArg},
		{short(false), api.MaxNum + 1, 1, 0, api.ErrArg},
		{short(false), 1, 0, 0, api.ErrArg},
		{short(false), 1, -4, 0, api.ErrArg},
		{short(false), 1, math.MaxInt, 1, api.ErrArg},
		{wrong, api.MaxNum + 1, 1, 0, api.ErrArg},
		{wrong, 1, 5, 20000, api.ErrArg},
		{long(api.Initial, 1, 1), api.MaxNum + 1, 4, 20000, api.ErrArg},

		{short(false), 1, 1, 0, api.ErrShort},
		{short(false), 1, 1, 2, api.ErrShort},
		{short(false), 1, 2, 1, api.ErrShort},
		{short(false), 1, 3, 0, api.ErrShort},
		{long(api.Handshake, 1, 1), 1, 1, 2, api.ErrShort},
		{wrong, 1, 1, 2, api.ErrShort},
		{wrongShort, 1, 3, 0, api.ErrShort},
		{short(false), 1, 1, 3, api.OK},
		{short(false), 1, 2, 2, api.OK},
		{short(false), 1, 3, 1, api.OK},
		{short(false), 1, 4, 0, api.OK},

		{long(api.Initial, 1, 1), 1, 4, 16383 - 16 - 4, api.OK},
		{long(api.Initial, 1, 1), 1, 4, 16383 - 16 - 3, api.ErrLong},
		{long(api.Handshake, 1, 1), 1, 1, 16383 - 16 - 1, api.OK},
		{long(api.Handshake, 1, 1), 1, 1, 16383 - 16, api.ErrLong},
		{wrong, 1, 1, 16383 - 16, api.ErrLong},
		{wrong, 1, 1, 16383 - 16 - 1, api.ErrForm},
		{wrong, 1, 1, 3, api.ErrForm},
		{wrongShort, 1, 1, 20000, api.ErrForm},
		{long(api.Initial, 21, 0), 1, 1, 3, api.ErrForm},
		{long(api.Initial, 0, 21), 1, 1, 3, api.ErrForm},
		{api.Head{Long: true, Level: api.Initial, Phase: true}, 1, 1, 3, api.ErrForm},
		{api.Head{Level: api.App, To: pattern(8), From: pattern(1)}, 1, 4, 0, api.ErrForm},
		{api.Head{}, 1, 4, 0, api.ErrForm},
	} {
		p, e := parcel.Close(rfcKeys(), x.h, x.pn, x.size, pattern(x.n))
		if e != x.want || (len(p) > 0) != (x.want == api.OK) {
			t.Errorf("Close(%+v, %x, %d, %d bytes) = %d bytes, %d; want %d", x.h, x.pn, x.size, x.n, len(p), e, x.want)
		}
	}
}
