package parcel_test

import (
	"bytes"
	"slices"
	"testing"

	"colonnade/api"
	"colonnade/parcel"
)

const spare = 90

// roomy returns n bytes with spare capacity, and the whole of it.
func roomy(n int) ([]byte, []byte) {
	whole := pattern(n + spare)
	return whole[:n], whole
}

// spoil overwrites slices with their spare capacity.
func spoil(l ...[]byte) {
	for _, p := range l {
		p = p[:cap(p)]
		for i := range p {
			p[i] ^= 0xff
		}
	}
}

// Arguments stay as they are with their spare capacity, and a packet shares no memory with them or with another one.
func TestMemoryOfClose(t *testing.T) {
	k := rfcKeys()
	to, wholeTo := roomy(8)
	from, wholeFrom := roomy(5)
	for _, h := range []api.Head{{Level: api.App, To: to}, {Long: true, Level: api.Handshake, To: to, From: from}} {
		plain, wholePlain := roomy(40)
		name, wholeName := roomy(8)
		parcel.First(name)
		a := mustClose(t, k, h, 9, 2, plain)
		b := mustClose(t, k, h, 9, 2, plain)
		want := slices.Clone(b)
		if !bytes.Equal(wholeTo, pattern(8+spare)) || !bytes.Equal(wholeFrom, pattern(5+spare)) || !bytes.Equal(wholePlain, pattern(40+spare)) || !bytes.Equal(wholeName, pattern(8+spare)) {
			t.Fatal("an argument was changed")
		}
		spoil(wholeTo, wholeFrom, wholePlain, wholeName, a)
		if !bytes.Equal(b, want) {
			t.Error("packets share memory")
		}
		spoil(wholeTo, wholeFrom)
	}
}

// The same of what Peek and Open return, and of the slices of one result.
func TestMemoryOfOpen(t *testing.T) {
	k := rfcKeys()
	for _, h := range []api.Head{long(api.Initial, 8, 8), short(true)} {
		packet := mustClose(t, k, h, 9, 2, pattern(40))
		if h.Long {
			packet = append(packet, pattern(30)...)
		}
		whole := append(bytes.Clone(packet), pattern(spare)...)
		p := whole[:len(packet)]
		peeked, _, _, _ := parcel.Peek(p, k.Mask)
		a, _, plainA, restA, _ := parcel.Open(k, p, 8, true)
		b, _, plain, rest, e := parcel.Open(k, p, 8, true)
		if e != api.OK || !bytes.Equal(whole, append(bytes.Clone(packet), pattern(spare)...)) {
			t.Fatalf("an argument was changed, or the packet is not opened: %d", e)
		}
		spoil(whole, peeked.To, peeked.From, a.To, a.From, plainA, restA)
		wantRest := bytes.Clone(packet[len(packet)-len(rest):])
		if !same(b, h) || !bytes.Equal(plain, pattern(40)) || !bytes.Equal(rest, wantRest) {
			t.Error("a result shares memory with an argument or another result")
		}
		list := [][]byte{b.To, b.From, plain, rest}
		for i := range list {
			before := []string{string(b.To), string(b.From), string(plain), string(rest)}
			spoil(list[i])
			for j := range list {
				if j != i && string(list[j]) != before[j] {
					t.Errorf("slices %d and %d of a result share memory", i, j)
				}
			}
		}
	}
}
