package frame_test

import (
	"bytes"
	"encoding/hex"
	"slices"
	"strings"
	"testing"

	"colonnade/api"
	"colonnade/frame"
	"colonnade/vint"
)

const top = api.MaxNum

// kinds are all kinds.
var kinds = []uint64{
	api.Padding, api.Ping, api.Ack, api.ResetStream, api.StopSending, api.Crypto, api.NewToken, api.Stream,
	api.MaxData, api.MaxStreamData, api.StreamsBidi, api.StreamsUni, api.DataBlocked, api.StreamBlocked, api.BidiBlocked, api.UniBlocked,
	api.NewConnectionID, api.RetireID, api.PathChallenge, api.PathResponse, api.Close, api.CloseApp, api.HandshakeDone, api.Datagram,
}

// unhex reads hexadecimal bytes; spaces between them mean nothing.
func unhex(s string) []byte {
	p, err := hex.DecodeString(strings.ReplaceAll(s, " ", ""))
	if err != nil {
		panic(err)
	}
	return p
}

// text returns n bytes that differ from place to place.
func text(n int) []byte {
	p := make([]byte, n)
	for i := range p {
		p[i] = byte(i*7 + i/251 + 0x61)
	}
	return p
}

// wide returns the encoding of n with size bytes.
func wide(n uint64, size int) []byte {
	p, e := vint.Wide(n, size)
	if e != api.OK {
		panic("there is no such encoding")
	}
	return p
}

func ranges(ends ...uint64) []api.Range {
	var l []api.Range
	for i := 0; i < len(ends); i += 2 {
		l = append(l, api.Range{From: ends[i], To: ends[i+1]})
	}
	return l
}

// many returns n ranges of one number each, with one number between them, down to 0.
func many(n int) []api.Range {
	l := make([]api.Range, n)
	for i := range l {
		at := uint64(2 * (n - 1 - i))
		l[i] = api.Range{From: at, To: at}
	}
	return l
}

func same(a, b api.Frame) bool {
	return a.Kind == b.Kind && a.ID == b.ID && a.Off == b.Off && a.N == b.N && a.Code == b.Code && a.Fin == b.Fin &&
		bytes.Equal(a.Data, b.Data) && bytes.Equal(a.Token, b.Token) && slices.Equal(a.Ranges, b.Ranges)
}

func zero(f api.Frame) bool {
	return same(f, api.Frame{})
}

// known are frames of all kinds with their encodings.
var known = []struct {
	f    api.Frame
	code string
}{
	{api.Frame{Kind: api.Padding, N: 1}, "00"},
	{api.Frame{Kind: api.Padding, N: 5}, "0000000000"},
	{api.Frame{Kind: api.Ping}, "01"},
	{api.Frame{Kind: api.Ack, Ranges: ranges(7, 9, 4, 4)}, "02 09 00 01 02 01 00"},
	{api.Frame{Kind: api.Ack, Ranges: ranges(0, 0)}, "02 00 00 00 00"},
	{api.Frame{Kind: api.Ack, N: 15293, Ranges: ranges(0, 100)}, "02 4064 7bbd 00 4064"},
	{api.Frame{Kind: api.Ack, N: top, Ranges: ranges(top, top, 2, top-2, 0, 0)}, "02 ffffffffffffffff ffffffffffffffff 02 00 00 fffffffffffffffb 00 00"},
	{api.Frame{Kind: api.Ack, Ranges: ranges(top, top, 0, 0)}, "02 ffffffffffffffff 00 01 00 fffffffffffffffd 00"},
	{api.Frame{Kind: api.Ack, N: 1, Ranges: many(16)}, "02 1e 01 0f 00" + strings.Repeat("0000", 15)},
	{api.Frame{Kind: api.ResetStream, ID: 4, Code: 64, Off: 5}, "04 04 4040 05"},
	{api.Frame{Kind: api.ResetStream}, "04 00 00 00"},
	{api.Frame{Kind: api.ResetStream, ID: top, Code: top - 1, Off: top - 2}, "04 ffffffffffffffff fffffffffffffffe fffffffffffffffd"},
	{api.Frame{Kind: api.StopSending, ID: 7, Code: 16384}, "05 07 80004000"},
	{api.Frame{Kind: api.StopSending, ID: top, Code: top}, "05 ffffffffffffffff ffffffffffffffff"},
	{api.Frame{Kind: api.Crypto, Off: 70, Data: []byte("ab")}, "06 4046 02 6162"},
	{api.Frame{Kind: api.Crypto}, "06 00 00"},
	{api.Frame{Kind: api.Crypto, Off: top - 2, Data: []byte("ab")}, "06 fffffffffffffffd 02 6162"},
	{api.Frame{Kind: api.Crypto, Off: top}, "06 ffffffffffffffff 00"},
	{api.Frame{Kind: api.NewToken, Data: []byte{9}}, "07 01 09"},
	{api.Frame{Kind: api.Stream, ID: 4, Data: []byte("ab"), Fin: true}, "0b 04 02 6162"},
	{api.Frame{Kind: api.Stream, ID: 4, Data: []byte("ab")}, "0a 04 02 6162"},
	{api.Frame{Kind: api.Stream, ID: 4, Off: 70, Data: []byte("ab")}, "0e 04 4046 02 6162"},
	{api.Frame{Kind: api.Stream, ID: 4, Off: 1, Fin: true}, "0f 04 01 00"},
	{api.Frame{Kind: api.Stream}, "0a 00 00"},
	{api.Frame{Kind: api.Stream, ID: top, Off: top - 1, Data: []byte{7}, Fin: true}, "0f ffffffffffffffff fffffffffffffffe 01 07"},
	{api.Frame{Kind: api.MaxData, N: 63}, "10 3f"},
	{api.Frame{Kind: api.MaxData, N: top}, "10 ffffffffffffffff"},
	{api.Frame{Kind: api.MaxData}, "10 00"},
	{api.Frame{Kind: api.MaxStreamData, ID: 5, N: 64}, "11 05 4040"},
	{api.Frame{Kind: api.StreamsBidi, N: 9}, "12 09"},
	{api.Frame{Kind: api.StreamsBidi, N: 1 << 60}, "12 d000000000000000"},
	{api.Frame{Kind: api.StreamsUni, N: 10}, "13 0a"},
	{api.Frame{Kind: api.StreamsUni, N: 1 << 60}, "13 d000000000000000"},
	{api.Frame{Kind: api.DataBlocked, N: 11}, "14 0b"},
	{api.Frame{Kind: api.DataBlocked, N: top}, "14 ffffffffffffffff"},
	{api.Frame{Kind: api.StreamBlocked, ID: 6, N: top}, "15 06 ffffffffffffffff"},
	{api.Frame{Kind: api.BidiBlocked, N: 12}, "16 0c"},
	{api.Frame{Kind: api.BidiBlocked, N: 1 << 60}, "16 d000000000000000"},
	{api.Frame{Kind: api.UniBlocked, N: 13}, "17 0d"},
	{api.Frame{Kind: api.UniBlocked, N: 1 << 60}, "17 d000000000000000"},
	{api.Frame{Kind: api.NewConnectionID, ID: 3, Off: 2, Data: []byte("n"), Token: []byte("0123456789abcdef")}, "18 03 02 01 6e 30313233343536373839616263646566"},
	{api.Frame{Kind: api.NewConnectionID, ID: 70, Off: 70, Data: []byte("0123456789abcdefghij"), Token: make([]byte, 16)}, "18 4046 4046 14 303132333435363738396162636465666768696a 00000000000000000000000000000000"},
	{api.Frame{Kind: api.RetireID, ID: 14}, "19 0e"},
	{api.Frame{Kind: api.RetireID, ID: top}, "19 ffffffffffffffff"},
	{api.Frame{Kind: api.PathChallenge, Data: []byte("01234567")}, "1a 3031323334353637"},
	{api.Frame{Kind: api.PathResponse, Data: make([]byte, 8)}, "1b 0000000000000000"},
	{api.Frame{Kind: api.Close, Code: 10, N: 6, Data: []byte("why")}, "1c 0a 06 03 776879"},
	{api.Frame{Kind: api.Close, Code: 0x100, N: top}, "1c 4100 ffffffffffffffff 00"},
	{api.Frame{Kind: api.CloseApp, Code: 3, Data: []byte("why")}, "1d 03 03 776879"},
	{api.Frame{Kind: api.CloseApp, Code: top}, "1d ffffffffffffffff 00"},
	{api.Frame{Kind: api.HandshakeDone}, "1e"},
	{api.Frame{Kind: api.Datagram, Data: []byte("d")}, "31 01 64"},
	{api.Frame{Kind: api.Datagram}, "31 00"},
	{api.Frame{Kind: api.Datagram, Data: text(64)}, "31 4040" + hex.EncodeToString(text(64))},
}

func checkRead(t *testing.T, p []byte, f api.Frame, left []byte) {
	t.Helper()
	if got, rest, e := frame.Read(p); e != api.OK || !same(got, f) || !bytes.Equal(rest, left) {
		t.Errorf("Read(%x) = %+v, %x, %d; want %+v, %x", p, got, rest, e, f, left)
	}
}
