package word_test

import (
	"bytes"
	"encoding/hex"
	"slices"
	"strings"
	"testing"

	"colonnade/api"
	"colonnade/vint"
	"colonnade/word"
)

const top = api.MaxNum

// kinds are all kinds, by their numbers.
var kinds = []uint64{0x03, 0x04, 0x05, 0x06, 0x07, 0x08, 0x09, 0x0a, 0x0b, 0x10, 0x15, 0x16, 0x17, 0x18, 0x19, 0x20, 0x21}

// unhex reads hexadecimal bytes; spaces between them mean nothing.
func unhex(s string) []byte {
	p, err := hex.DecodeString(strings.ReplaceAll(s, " ", ""))
	if err != nil {
		panic(err)
	}
	return p
}

// text returns n bytes that differ from place to place.
func text(n int) []byte {
	p := make([]byte, n)
	for i := range p {
		p[i] = byte(i*7 + i/251 + 0x61)
	}
	return p
}

func at(group, object uint64) api.Place {
	return api.Place{Group: group, Object: object}
}

// wide returns the encoding of n with size bytes.
func wide(n uint64, size int) []byte {
	p, e := vint.Wide(n, size)
	if e != api.OK {
		panic("there is no such encoding")
	}
	return p
}

// framed returns the bytes of a message of the kind with this body, which may be none of the kind.
func framed(kind uint64, body []byte) []byte {
	p := append(wide(kind, 1), byte(len(body)>>8), byte(len(body)))
	return append(p, body...)
}

func same(a, b word.Msg) bool {
	return a.Kind == b.Kind && a.ID == b.ID && a.Alias == b.Alias && bytes.Equal(a.Name, b.Name) &&
		a.Priority == b.Priority && a.Order == b.Order && a.Start == b.Start && a.End == b.End && a.Some == b.Some &&
		a.Code == b.Code && bytes.Equal(a.Reason, b.Reason) && a.N == b.N && a.Version == b.Version && slices.Equal(a.Versions, b.Versions)
}

func zero(m word.Msg) bool {
	return same(m, word.Msg{})
}

// known are messages of all kinds with their encodings.
var known = []struct {
	m    word.Msg
	code string
}{
	{word.Msg{Kind: word.Subscribe, ID: 2, Alias: 70, Name: []byte("t"), Priority: 9, Order: 1, Start: at(1, 2), End: at(3, 0)}, "03 000a 02 4046 01 74 09 01 01 02 03"},
	{word.Msg{Kind: word.Subscribe, Name: []byte("t"), Order: 2}, "03 0009 00 00 01 74 00 02 00 00 00"},
	{word.Msg{Kind: word.Subscribe, ID: 1, Name: []byte("t"), Order: 1, Start: at(0, 7), End: at(1, 0)}, "03 0009 01 00 01 74 00 01 00 07 01"},
	{word.Msg{Kind: word.Subscribe, ID: 1, Name: []byte("t"), Order: 1, Start: at(5, top)}, "03 0010 01 00 01 74 00 01 05 ffffffffffffffff 00"},
	{word.Msg{Kind: word.Subscribe, ID: top, Alias: top - 1, Name: text(32), Priority: 255, Order: 2, Start: at(top-1, top), End: at(top, 0)},
		"03 004b ffffffffffffffff fffffffffffffffe 20" + hex.EncodeToString(text(32)) + "ff 02 fffffffffffffffe ffffffffffffffff ffffffffffffffff"},
	{word.Msg{Kind: word.SubscribeOK, ID: 3}, "04 0004 03 00 00 00"},
	{word.Msg{Kind: word.SubscribeOK, ID: 3, Some: true}, "04 0004 03 01 00 00"},
	{word.Msg{Kind: word.SubscribeOK, ID: 3, Some: true, Start: at(64, 5)}, "04 0005 03 01 4040 05"},
	{word.Msg{Kind: word.SubscribeOK, ID: top, Some: true, Start: at(top, top)}, "04 0019 ffffffffffffffff 01 ffffffffffffffff ffffffffffffffff"},
	{word.Msg{Kind: word.SubscribeError, ID: 4, Code: 64, Reason: []byte("why")}, "05 0007 04 4040 03 776879"},
	{word.Msg{Kind: word.SubscribeError}, "05 0003 00 00 00"},
	{word.Msg{Kind: word.SubscribeError, ID: top, Code: top, Reason: text(64)}, "05 0052 ffffffffffffffff ffffffffffffffff 4040" + hex.EncodeToString(text(64))},
	{word.Msg{Kind: word.Announce, ID: 5, Name: []byte("ab")}, "06 0004 05 02 6162"},
	{word.Msg{Kind: word.Announce, Name: text(32)}, "06 0022 00 20" + hex.EncodeToString(text(32))},
	{word.Msg{Kind: word.AnnounceOK, ID: 6}, "07 0001 06"},
	{word.Msg{Kind: word.AnnounceOK, ID: 16384}, "07 0004 80004000"},
	{word.Msg{Kind: word.AnnounceError, ID: 7, Code: 1, Reason: []byte("no")}, "08 0005 07 01 02 6e6f"},
	{word.Msg{Kind: word.Unannounce, Name: []byte{0}}, "09 0002 01 00"},
	{word.Msg{Kind: word.Unannounce, Name: text(32)}, "09 0021 20" + hex.EncodeToString(text(32))},
	{word.Msg{Kind: word.Unsubscribe, ID: 5}, "0a 0001 05"},
	{word.Msg{Kind: word.SubscribeDone, ID: 8, Code: 2, Reason: []byte("x")}, "0b 0004 08 02 01 78"},
	{word.Msg{Kind: word.Goaway}, "10 0000"},
	{word.Msg{Kind: word.MaxRequest, N: 17}, "15 0001 11"},
	{word.Msg{Kind: word.MaxRequest}, "15 0001 00"},
	{word.Msg{Kind: word.MaxRequest, N: top}, "15 0008 ffffffffffffffff"},
	{word.Msg{Kind: word.Fetch, ID: 9, Name: []byte("ab"), Priority: 3, Start: at(1, 2), End: at(1, 4)}, "16 0009 09 02 6162 03 01 02 01 04"},
	{word.Msg{Kind: word.Fetch, ID: 9, Name: []byte("a"), Start: at(1, 2), End: at(1, 2)}, "16 0008 09 01 61 00 01 02 01 02"},
	{word.Msg{Kind: word.Fetch, ID: 9, Name: []byte("a"), Start: at(1, 2), End: at(2, 0)}, "16 0008 09 01 61 00 01 02 02 00"},
	{word.Msg{Kind: word.Fetch, Name: []byte("a")}, "16 0008 00 01 61 00 00 00 00 00"},
	{word.Msg{Kind: word.Fetch, ID: top, Name: text(32), Priority: 255, Start: at(top, top), End: at(top, top)},
		"16 004a ffffffffffffffff 20" + hex.EncodeToString(text(32)) + "ff" + strings.Repeat("ff", 32)},
	{word.Msg{Kind: word.FetchCancel, ID: 10}, "17 0001 0a"},
	{word.Msg{Kind: word.FetchOK, ID: 11}, "18 0001 0b"},
	{word.Msg{Kind: word.FetchError, ID: 12, Code: 15293}, "19 0004 0c 7bbd 00"},
	{word.Msg{Kind: word.ClientSetup, Versions: []uint64{1}, N: 16}, "20 0003 01 01 10"},
	{word.Msg{Kind: word.ClientSetup, Versions: []uint64{0}}, "20 0003 01 00 00"},
	{word.Msg{Kind: word.ClientSetup, Versions: []uint64{7, 7, 1, 64, 0, top, 2, 3}, N: 64}, "20 0013 08 07 07 01 4040 00 ffffffffffffffff 02 03 4040"},
	{word.Msg{Kind: word.ServerSetup, Version: 1, N: 64}, "21 0003 01 4040"},
	{word.Msg{Kind: word.ServerSetup}, "21 0002 00 00"},
	{word.Msg{Kind: word.ServerSetup, Version: top, N: top}, "21 0010 ffffffffffffffff ffffffffffffffff"},
}

func checkBytes(t *testing.T, m word.Msg, want api.Errno) {
	t.Helper()
	if p, e := word.Bytes(m); e != want || (len(p) > 0) != (want == api.OK) {
		t.Errorf("Bytes(%+v) = %x, %d; want %d", m, p, e, want)
	}
}

func checkRead(t *testing.T, p []byte, m word.Msg, left []byte) {
	t.Helper()
	if got, rest, e := word.Read(p); e != api.OK || !same(got, m) || !bytes.Equal(rest, left) {
		t.Errorf("Read(%x) = %+v, %x, %d; want %+v, %x", p, got, rest, e, m, left)
	}
}

func checkError(t *testing.T, p []byte, want api.Errno) {
	t.Helper()
	if m, rest, e := word.Read(p); e != want || !zero(m) || len(rest) != 0 {
		t.Errorf("Read(%x) = %+v, %x, %d; want %d", p, m, rest, e, want)
	}
}
