package parcel_test

import (
	"bytes"
	"math"
	"testing"

	"colonnade/api"
	"colonnade/head"
	"colonnade/parcel"
)

func TestPeekAndOpen(t *testing.T) {
	for _, x := range knownPackets() {
		cut := head.Cut(x.pn, x.size)
		checkPeek(t, unhex(x.code), x.k.Mask, x.h, cut, x.size, api.OK)
		checkOpen(t, x.k, unhex(x.code), max(x.pn, 1)-1, x.h, x.pn, []byte(x.plain), nil)
	}
}

// Every header and size, with and without bytes after the packet; those after a short one are its own.
func TestOpenOfClose(t *testing.T) {
	k := rfcKeys()
	for _, h := range heads() {
		for size := 1; size <= 4; size++ {
			for _, n := range []int{4 - size, 5 - size, 16, 100, 1100} {
				for _, pn := range []uint64{1, 255, 256, 0x123456789, 1<<61 + 7, api.MaxNum} {
					p := mustClose(t, k, h, pn, size, pattern(n))
					checkPeek(t, p, k.Mask, h, head.Cut(pn, size), size, api.OK)
					checkOpen(t, k, p, pn-1, h, pn, pattern(n), nil)
					for _, rest := range [][]byte{{0}, {0xc0}, pattern(50)} {
						q := append(bytes.Clone(p), rest...)
						if h.Long {
							checkPeek(t, q, k.Mask, h, head.Cut(pn, size), size, api.OK)
							checkOpen(t, k, q, pn-1, h, pn, pattern(n), rest)
						} else {
							checkShut(t, k, q, pn-1, true, api.ErrSeal)
						}
					}
				}
			}
		}
	}
}

// Packets of all levels, one after the other, are opened one by one.
func TestOpenOfSeveral(t *testing.T) {
	client, server := firstKeys()
	app := rfcKeys()
	keys := []parcel.Keys{client, server, app}
	list := []api.Head{long(api.Initial, 8, 8), long(api.Handshake, 8, 8), short(true)}
	var p []byte
	for i, h := range list {
		p = append(p, mustClose(t, keys[i], h, uint64(10+i), 1+i, pattern(20+i))...)
	}
	for i, h := range list {
		checkPeek(t, p, keys[i].Mask, h, uint64(10+i), 1+i, api.OK)
		got, pn, plain, rest, e := parcel.Open(keys[i], p, 0, true)
		if e != api.OK || !same(got, h) || pn != uint64(10+i) || !bytes.Equal(plain, pattern(20+i)) {
			t.Fatalf("packet %d: %+v, %d, %x, %d", i, got, pn, plain, e)
		}
		p = rest
	}
	if len(p) != 0 {
		t.Errorf("%x are left", p)
	}
}

// The first packet of all comes when none was received.
func TestOpenOfFirst(t *testing.T) {
	k := rfcKeys()
	for _, pn := range []uint64{0, 1, 100, 127} {
		p := mustClose(t, k, short(false), pn, 1, pattern(9))
		for _, largest := range []uint64{0, 1000, math.MaxUint64} {
			if h, got, plain, _, e := parcel.Open(k, p, largest, false); e != api.OK || got != pn || !bytes.Equal(plain, pattern(9)) || !same(h, short(false)) {
				t.Errorf("the first packet, with the number %d: %+v, %d, %x, %d", pn, h, got, plain, e)
			}
		}
	}
	p := mustClose(t, k, short(false), 300, 1, pattern(9))
	checkShut(t, k, p, 290, false, api.ErrSeal)
	checkOpen(t, k, p, 290, short(false), 300, pattern(9), nil)
}

// What cannot be read has the error of head.Read, whatever the keys are.
func TestOpenOfUnreadable(t *testing.T) {
	k := rfcKeys()
	check := func(p []byte) {
		t.Helper()
		_, _, _, want := head.Read(p)
		if want == api.OK {
			checkShut(t, k, p, 4, true, api.ErrSeal)
			return
		}
		checkShut(t, k, p, 4, true, want)
		checkShut(t, parcel.Keys{}, p, 4, false, want)
		checkPeek(t, p, k.Mask, api.Head{}, 0, 0, want)
		checkPeek(t, p, [32]byte{}, api.Head{}, 0, 0, want)
	}
	for _, h := range heads() {
		p := mustClose(t, k, h, 5, 2, pattern(30))
		for n := range p {
			check(p[:n])
		}
		for i := range p {
			for _, flip := range []byte{1, 0x10, 0x40, 0x80, 0xff} {
				q := bytes.Clone(p)
				q[i] ^= flip
				check(q)
			}
		}
	}
	for _, x := range []struct {
		code string
		want api.Errno
	}{
		{"", api.ErrShort},
		{"00", api.ErrForm},
		{"80", api.ErrForm},
		{"d0", api.ErrForm},
		{"f0", api.ErrForm},
		{"40", api.ErrShort},
		{"c0", api.ErrShort},
		{"c000000002", api.ErrForm},
		{"c00000000115", api.ErrForm},
		{"c000000001000001", api.ErrForm},
		{"c00000000100000013" + "00000000000000000000000000000000000000", api.ErrForm},
		{"c00000000100000014" + "00000000000000000000000000000000000000", api.ErrShort},
		{"401122334455667788" + "00000000000000000000000000000000000000", api.ErrForm},
	} {
		checkShut(t, k, unhex(x.code), 0, false, x.want)
		checkPeek(t, unhex(x.code), k.Mask, api.Head{}, 0, 0, x.want)
	}
	checkShut(t, k, nil, 0, false, api.ErrShort)
	checkPeek(t, nil, k.Mask, api.Head{}, 0, 0, api.ErrShort)
}

// The reserved bits are told of only when the packet was opened; Peek doesn't look at them.
func TestOpenOfReserved(t *testing.T) {
	k := rfcKeys()
	for _, h := range heads() {
		bits := []byte{0x08, 0x10, 0x18}
		if h.Long {
			bits = []byte{0x04, 0x08, 0x0c}
		}
		for size := 1; size <= 4; size++ {
			for _, set := range bits {
				header := headerOf(t, h, 0x1234567, size, 10)
				header[0] |= set
				p := packOf(k, header, 0x1234567, size, pattern(10))
				checkShut(t, k, p, 0x1234566, true, api.ErrForm)
				checkPeek(t, p, k.Mask, h, head.Cut(0x1234567, size), size, api.OK)

				// Another number or another tag is told of first.
				checkShut(t, k, p, 0x123456789abcd, true, api.ErrSeal)
				p[len(p)-1] ^= 1
				checkShut(t, k, p, 0x1234566, true, api.ErrSeal)

				// If the bits were set on the way, the packet is not the one that was closed.
				p = mustClose(t, k, h, 0x1234567, size, pattern(10))
				p[0] ^= set
				checkShut(t, k, p, 0x1234566, true, api.ErrSeal)
			}
		}
	}
}

// What head.Read lets pass is opened: other encodings of the lengths, and the bit of a short header that means nothing.
func TestOpenOfOtherEncodings(t *testing.T) {
	k := rfcKeys()
	h := api.Head{Long: true, Level: api.Initial, To: []byte("t"), From: []byte("f")}
	for _, code := range []string{
		"c000000001" + "0174" + "0166" + "00" + "1b",
		"c000000001" + "0174" + "0166" + "00" + "401b",
		"c000000001" + "0174" + "0166" + "00" + "8000001b",
		"c000000001" + "0174" + "0166" + "00" + "c00000000000001b",
		"c000000001" + "0174" + "0166" + "4000" + "401b",
		"c000000001" + "0174" + "0166" + "c000000000000000" + "1b",
	} {
		p := packOf(k, append(unhex(code), 7), 7, 1, pattern(10))
		checkPeek(t, p, k.Mask, h, 7, 1, api.OK)
		checkOpen(t, k, p, 6, h, 7, pattern(10), nil)
		checkOpen(t, k, append(p, 9, 9), 6, h, 7, pattern(10), []byte{9, 9})
	}
	header := headerOf(t, short(true), 7, 2, 10)
	header[0] |= 0x20
	p := packOf(k, header, 7, 2, pattern(10))
	checkPeek(t, p, k.Mask, short(true), 7, 2, api.OK)
	checkOpen(t, k, p, 6, short(true), 7, pattern(10), nil)
}

// Peek needs the mask alone: with another one it tells something else, and no error.
func TestPeekOfOtherMask(t *testing.T) {
	k := rfcKeys()
	differs := false
	for pn := range uint64(50) {
		p := mustClose(t, k, short(pn%2 == 0), pn, 2, pattern(10))
		checkPeek(t, p, k.Mask, short(pn%2 == 0), pn, 2, api.OK)
		h, cut, size, e := parcel.Peek(p, [32]byte{})
		if e != api.OK || size < 1 || size > 4 || !bytes.Equal(h.To, []byte("12345678")) {
			t.Fatalf("Peek with another mask: %+v, %x, %d, %d", h, cut, size, e)
		}
		differs = differs || cut != pn
	}
	if !differs {
		t.Error("Peek doesn't depend on the mask")
	}
}
