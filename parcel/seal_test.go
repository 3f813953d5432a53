package parcel_test

import (
	"bytes"
	"math"
	"math/rand/v2"
	"testing"

	"colonnade/api"
	"colonnade/head"
	"colonnade/parcel"
)

// A packet is opened just if its number is reconstructed correctly.
func TestOpenByNumber(t *testing.T) {
	k := rfcKeys()
	random := rand.New(rand.NewPCG(6, 4))
	opened, shut := 0, 0
	for _, pn := range []uint64{0, 1, 127, 128, 255, 256, 300, 1 << 16, 1<<32 + 5, 1 << 40, 1 << 61, api.MaxNum - 200, api.MaxNum} {
		for size := 1; size <= 4; size++ {
			p := mustClose(t, k, short(false), pn, size, pattern(12))
			w := uint64(1) << (8 * size)
			for _, largest := range []uint64{0, 1, pn, pn - 1, pn - 2, pn + 1, pn - w/2, pn - w/2 - 1, pn - w/2 - 2, pn + w/2 - 1, pn + w/2, pn - w, pn + w, api.MaxNum, math.MaxUint64, random.Uint64()} {
				if head.Grow(largest, true, head.Cut(pn, size), size) == pn {
					checkOpen(t, k, p, largest, short(false), pn, pattern(12), nil)
					opened++
				} else {
					checkShut(t, k, p, largest, true, api.ErrSeal)
					shut++
				}
			}
		}
	}
	if opened < 100 || shut < 100 {
		t.Errorf("%d were opened and %d were not", opened, shut)
	}
}

// Need's size is enough for a packet to be opened by a side that received at least what it acknowledged.
func TestOpenOfNeed(t *testing.T) {
	k := rfcKeys()
	random := rand.New(rand.NewPCG(6, 5))
	for range 500 {
		acked := random.Uint64N(1 << 61)
		pn := acked + 1 + random.Uint64N(1<<random.IntN(31))
		size := head.Need(pn, acked, true)
		p := mustClose(t, k, short(true), pn, size, pattern(12))
		for _, largest := range []uint64{acked, pn - 1, acked + random.Uint64N(pn-acked)} {
			checkOpen(t, k, p, largest, short(true), pn, pattern(12), nil)
		}
	}
}

// No bit of a packet may be changed.
func TestOpenOfChanged(t *testing.T) {
	k := rfcKeys()
	for _, h := range heads() {
		for size := 1; size <= 4; size++ {
			p := mustClose(t, k, h, 0x12345678, size, pattern(9))
			for i := range p {
				for bit := range 8 {
					q := bytes.Clone(p)
					q[i] ^= 1 << bit
					got, pn, plain, rest, e := parcel.Open(k, q, 0x12345677, true)
					if e == api.OK || !same(got, api.Head{}) || pn != 0 || len(plain) != 0 || len(rest) != 0 {
						t.Errorf("%+v in %d bytes, with bit %d of byte %d changed: %+v, %x, %x, %x, %d", h, size, bit, i, got, pn, plain, rest, e)
					}
				}
			}
		}
	}
}

// Nor any byte to any other value, nor the packet's length.
func TestOpenOfReplaced(t *testing.T) {
	k := rfcKeys()
	for _, h := range []api.Head{short(true), long(api.Initial, 2, 3), long(api.Handshake, 8, 0)} {
		p := mustClose(t, k, h, 77, 2, pattern(4))
		for i := range p {
			for b := range 256 {
				q := bytes.Clone(p)
				q[i] = byte(b)
				if _, _, _, _, e := parcel.Open(k, q, 76, true); (e == api.OK) != (q[i] == p[i]) {
					t.Errorf("%+v, with byte %d as %x instead of %x: %d", h, i, b, p[i], e)
				}
			}
			if _, _, _, _, e := parcel.Open(k, p[:i], 76, true); e == api.OK {
				t.Errorf("%+v is opened when cut to %d bytes", h, i)
			}
		}
	}
}

// Each of the keys matters, and each of their bytes.
func TestOpenByOtherKeys(t *testing.T) {
	k := rfcKeys()
	for _, h := range heads() {
		p := mustClose(t, k, h, 300, 2, pattern(9))
		check := func(what string, other parcel.Keys) {
			t.Helper()
			if _, _, _, _, e := parcel.Open(other, p, 299, true); e != api.ErrSeal {
				t.Errorf("%+v with another %s: %d", h, what, e)
			}
		}
		for i := range 32 {
			other := k
			other.Key[i] ^= 1
			check("key", other)
		}
		for i := range 12 {
			other := k
			other.Nonce[i] ^= 1
			check("nonce", other)
		}
		next := parcel.Turn(k, parcel.Next([32]byte(unhex(rfcSecret))))
		check("phase", next)
		checkOpen(t, next, mustClose(t, next, h, 300, 2, pattern(9)), 299, h, 300, pattern(9), nil)
		client, server := firstKeys()
		check("direction", client)
		check("direction", server)
	}
}
