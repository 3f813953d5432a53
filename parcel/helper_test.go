package parcel_test

import (
	"bytes"
	"encoding/binary"
	"encoding/hex"
	"testing"

	"colonnade/api"
	"colonnade/head"
	"colonnade/parcel"
	"colonnade/salt"
)

// The secret and the number of the short packet of RFC 9001, A.5, and the name of its long ones.
const (
	rfcSecret = "9ac312a7f877468ebe69422748ad00a15443f18203a07d6060f688f30f21632b"
	rfcNumber = 654360564
	rfcName   = "8394c8f03e515708"
)

func unhex(s string) []byte {
	p, err := hex.DecodeString(s)
	if err != nil {
		panic(err)
	}
	return p
}

// pattern returns n bytes that differ from place to place.
func pattern(n int) []byte {
	p := make([]byte, n)
	for i := range p {
		p[i] = byte(i*7 + i/251 + 3)
	}
	return p
}

func rfcKeys() parcel.Keys {
	return parcel.Draw([32]byte(unhex(rfcSecret)))
}

func firstKeys() (parcel.Keys, parcel.Keys) {
	client, server := parcel.First(unhex(rfcName))
	return parcel.Draw(client), parcel.Draw(server)
}

func short(phase bool) api.Head {
	return api.Head{Level: api.App, To: []byte("12345678"), Phase: phase}
}

func long(level, to, from int) api.Head {
	return api.Head{Long: true, Level: level, To: pattern(to), From: pattern(from)}
}

// heads are valid headers of all kinds.
func heads() []api.Head {
	l := []api.Head{short(false), short(true)}
	for _, level := range []int{api.Initial, api.Handshake} {
		l = append(l, long(level, 0, 0), long(level, 8, 0), long(level, 3, 5), long(level, 20, 20))
	}
	return l
}

func same(a, b api.Head) bool {
	return a.Long == b.Long && a.Level == b.Level && a.Phase == b.Phase && bytes.Equal(a.To, b.To) && bytes.Equal(a.From, b.From)
}

func mustClose(t *testing.T, k parcel.Keys, h api.Head, pn uint64, size int, plain []byte) []byte {
	t.Helper()
	p, e := parcel.Close(k, h, pn, size, plain)
	if e != api.OK {
		t.Fatalf("Close(%+v, %x, %d, %d bytes): %d", h, pn, size, len(plain), e)
	}
	return p
}

// packOf puts a packet together as the document says, whatever its header's bytes are; the last size of these are the number's.
func packOf(k parcel.Keys, header []byte, pn uint64, size int, plain []byte) []byte {
	nonce := k.Nonce
	binary.BigEndian.PutUint64(nonce[4:], binary.BigEndian.Uint64(nonce[4:])^pn)
	p := append(bytes.Clone(header), salt.Close(k.Key, nonce, plain, header)...)
	at := len(header) - size
	sample := p[at+4 : at+20]
	mask, _ := salt.Stream(k.Mask, [12]byte(sample[4:]), binary.LittleEndian.Uint32(sample), 5)
	if p[0] >= 0x80 {
		mask[0] %= 16
	} else {
		mask[0] %= 32
	}
	p[0] ^= mask[0]
	for i := range size {
		p[at+i] ^= mask[1+i]
	}
	return p
}

// headerOf returns the header of a packet that carries n bytes.
func headerOf(t *testing.T, h api.Head, pn uint64, size, n int) []byte {
	t.Helper()
	p, e := head.Bytes(h, pn, size, n+16)
	if e != api.OK {
		t.Fatalf("Bytes(%+v, %x, %d): %d", h, pn, size, e)
	}
	return p
}

// checkOpen opens p after the number largest, with no error.
func checkOpen(t *testing.T, k parcel.Keys, p []byte, largest uint64, h api.Head, pn uint64, plain, rest []byte) {
	t.Helper()
	gotH, gotPN, gotPlain, gotRest, e := parcel.Open(k, p, largest, true)
	if e != api.OK || !same(gotH, h) || gotPN != pn || !bytes.Equal(gotPlain, plain) || !bytes.Equal(gotRest, rest) {
		t.Errorf("Open(%x after %x) = %+v, %x, %x, %x, %d; want %+v, %x, %x, %x", p, largest, gotH, gotPN, gotPlain, gotRest, e, h, pn, plain, rest)
	}
}

// checkShut opens p, with an error and nothing beside it.
func checkShut(t *testing.T, k parcel.Keys, p []byte, largest uint64, some bool, want api.Errno) {
	t.Helper()
	h, pn, plain, rest, e := parcel.Open(k, p, largest, some)
	if e != want || !same(h, api.Head{}) || pn != 0 || len(plain) != 0 || len(rest) != 0 {
		t.Errorf("Open(%x after %x, %t) = %+v, %x, %x, %x, %d; want %d and nothing", p, largest, some, h, pn, plain, rest, e, want)
	}
}

func checkPeek(t *testing.T, p []byte, mask [32]byte, h api.Head, cut uint64, size int, want api.Errno) {
	t.Helper()
	if gotH, gotCut, gotSize, e := parcel.Peek(p, mask); e != want || !same(gotH, h) || gotCut != cut || gotSize != size {
		t.Errorf("Peek(%x) = %+v, %x, %d, %d; want %+v, %x, %d, %d", p, gotH, gotCut, gotSize, e, h, cut, size, want)
	}
}
