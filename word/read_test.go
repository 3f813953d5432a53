package word_test

import (
	"bytes"
	"slices"
	"strings"
	"testing"

	"colonnade/api"
	"colonnade/vint"
	"colonnade/word"
)

func TestRead(t *testing.T) {
	for _, x := range known {
		checkRead(t, unhex(x.code), x.m, nil)
		for _, rest := range []string{"05", "ff", "40", "0a 00 01 05"} {
			checkRead(t, append(unhex(x.code), unhex(rest)...), x.m, unhex(rest))
		}
	}
}

// Each message is incomplete wherever it is cut off.
func TestReadOfIncomplete(t *testing.T) {
	checkError(t, nil, api.ErrShort)
	checkError(t, []byte{}, api.ErrShort)
	for _, x := range known {
		p := unhex(x.code)
		for n := range p {
			checkError(t, p[:n], api.ErrShort)
		}
	}
	for _, p := range []string{"40", "80", "800000", "c0", "c0000000000000", "ff", "4010", "4010 00"} {
		checkError(t, unhex(p), api.ErrShort)
	}
}

// A number that is no kind's is wrong, whatever follows.
func TestReadOfUnknownKinds(t *testing.T) {
	for n := range uint64(600) {
		if slices.Contains(kinds, n) {
			continue
		}
		code, _ := vint.Num(n)
		for _, rest := range []string{"", "00", "0000", "0001", "0001 05", "ffff"} {
			checkError(t, append(slices.Clone(code), unhex(rest)...), api.ErrForm)
		}
	}
	for _, n := range []uint64{1<<8 | word.Goaway, 1<<30 | word.Goaway, 1<<32 | word.Goaway, top} {
		checkError(t, append(wide(n, 8), 0, 0), api.ErrForm)
	}
}

// What is incomplete is not looked at.
func TestReadOfIncompleteAndInvalid(t *testing.T) {
	for _, p := range []string{
		"0a 0003 05 05",
		"0a 0100 05",
		"0a ffff" + strings.Repeat("05", 65534),
		"10 0001",
		"09 0002 00",
		"09 0003 21 61",
		"03 000a 02 02 01 74 09 03 01 02",
		"20 0003 00 00",
		"20 00ff ffffffffffffffff",
	} {
		checkError(t, unhex(p), api.ErrShort)
	}
}

// Read takes what Bytes doesn't write: other encodings of numbers, of a kind, of lengths.
func TestReadOfOtherEncodings(t *testing.T) {
	for _, x := range []struct {
		p    string
		m    word.Msg
		rest string
	}{
		{"0a 0002 4005", word.Msg{Kind: word.Unsubscribe, ID: 5}, ""},
		{"400a 0004 80000005 05", word.Msg{Kind: word.Unsubscribe, ID: 5}, "05"},
		{"8000000a 0008 c000000000000005", word.Msg{Kind: word.Unsubscribe, ID: 5}, ""},
		{"c000000000000010 0000", word.Msg{Kind: word.Goaway}, ""},
		{"03 0017 4002 4006 4001 74 09 01 80000001 c000000000000002 4003", word.Msg{Kind: word.Subscribe, ID: 2, Alias: 6, Name: []byte("t"), Priority: 9, Order: 1, Start: at(1, 2), End: at(3, 0)}, ""},
		{"04 0007 4003 01 4004 4005", word.Msg{Kind: word.SubscribeOK, ID: 3, Some: true, Start: at(4, 5)}, ""},
		{"05 000a 4004 4040 80000002 6e6f", word.Msg{Kind: word.SubscribeError, ID: 4, Code: 64, Reason: []byte("no")}, ""},
		{"16 0011 4009 4002 6162 03 4001 4002 4001 80000004", word.Msg{Kind: word.Fetch, ID: 9, Name: []byte("ab"), Priority: 3, Start: at(1, 2), End: at(1, 4)}, ""},
		{"20 000a 4002 80000001 4002 4010", word.Msg{Kind: word.ClientSetup, Versions: []uint64{1, 2}, N: 16}, ""},
		{"21 0006 4001 80000010", word.Msg{Kind: word.ServerSetup, Version: 1, N: 16}, ""},
	} {
		checkRead(t, unhex(x.p), x.m, unhex(x.rest))
	}
}

// A body that is complete but has too few bytes for its fields, or too many, is wrong.
func TestReadOfWrongLengths(t *testing.T) {
	for _, x := range known {
		p := unhex(x.code)
		body := p[3:]
		for n := range body {
			checkError(t, framed(x.m.Kind, body[:n]), api.ErrForm)
			checkError(t, append(framed(x.m.Kind, body[:n]), text(40)...), api.ErrForm)
		}
		for _, more := range [][]byte{{0}, {5}, text(300)} {
			checkError(t, framed(x.m.Kind, slices.Concat(body, more)), api.ErrForm)
		}
	}
	checkError(t, unhex("0a 0002 05 05"), api.ErrForm)
	checkError(t, framed(word.Goaway, make([]byte, 65535)), api.ErrForm)
}

func TestReadOfInvalid(t *testing.T) {
	name := strings.Repeat("61", 33)
	reason := strings.Repeat("61", 65)
	for _, x := range []struct {
		kind uint64
		body string
		want api.Errno
	}{
		// The order.
		{word.Subscribe, "02 06 01 74 09 01 01 02 03", api.OK},
		{word.Subscribe, "02 06 01 74 09 02 01 02 03", api.OK},
		{word.Subscribe, "02 06 01 74 09 00 01 02 03", api.ErrForm},
		{word.Subscribe, "02 06 01 74 09 03 01 02 03", api.ErrForm},
		{word.Subscribe, "02 06 01 74 09 ff 01 02 03", api.ErrForm},
		// The end.
		{word.Subscribe, "02 06 01 74 09 01 02 02 03", api.OK},
		{word.Subscribe, "02 06 01 74 09 01 03 02 03", api.ErrForm},
		{word.Subscribe, "02 06 01 74 09 01 04 00 03", api.ErrForm},
		{word.Subscribe, "02 06 01 74 09 01 04 00 00", api.OK},
		{word.Subscribe, "02 06 01 74 09 01 01 02 03 00", api.ErrForm},
		{word.Fetch, "09 01 61 03 01 02 01 02", api.OK},
		{word.Fetch, "09 01 61 03 01 02 01 01", api.ErrForm},
		{word.Fetch, "09 01 61 03 01 02 00 09", api.ErrForm},
		{word.Fetch, "09 01 61 03 01 02 02 00", api.OK},
		{word.Fetch, "09 01 61 03 01 02 03", api.ErrForm},
		// The name.
		{word.Subscribe, "02 06 20" + name[2:] + "09 01 01 02 03", api.OK},
		{word.Subscribe, "02 06 21" + name + "09 01 01 02 03", api.ErrForm},
		{word.Subscribe, "02 06 00 09 01 01 02 03", api.ErrForm},
		{word.Announce, "05 20" + name[2:], api.OK},
		{word.Announce, "05 21" + name, api.ErrForm},
		{word.Announce, "05 00", api.ErrForm},
		{word.Announce, "05 ffffffffffffffff 61", api.ErrForm},
		{word.Unannounce, "4020" + name[2:], api.OK},
		{word.Unannounce, "21" + name, api.ErrForm},
		{word.Unannounce, "00", api.ErrForm},
		{word.Unannounce, "4000", api.ErrForm},
		{word.Unannounce, "02 61", api.ErrForm},
		{word.Fetch, "09 20" + name[2:] + "03 01 02 01 04", api.OK},
		{word.Fetch, "09 21" + name + "03 01 02 01 04", api.ErrForm},
		{word.Fetch, "09 00 03 01 02 01 04", api.ErrForm},
		// The reason.
		{word.SubscribeError, "04 00 4040" + reason[2:], api.OK},
		{word.SubscribeError, "04 00 4041" + reason, api.ErrForm},
		{word.AnnounceError, "04 00 4040" + reason[2:], api.OK},
		{word.AnnounceError, "04 00 4041" + reason, api.ErrForm},
		{word.SubscribeDone, "04 00 4040" + reason[2:], api.OK},
		{word.SubscribeDone, "04 00 4041" + reason, api.ErrForm},
		{word.FetchError, "04 00 4040" + reason[2:], api.OK},
		{word.FetchError, "04 00 4041" + reason, api.ErrForm},
		{word.FetchError, "04 00 ffffffffffffffff", api.ErrForm},
		// Whether there was any object.
		{word.SubscribeOK, "03 00 00 00", api.OK},
		{word.SubscribeOK, "03 01 04 05", api.OK},
		{word.SubscribeOK, "03 02 00 00", api.ErrForm},
		{word.SubscribeOK, "03 02 04 05", api.ErrForm},
		{word.SubscribeOK, "03 ff 04 05", api.ErrForm},
		{word.SubscribeOK, "03 00 00 01", api.ErrForm},
		{word.SubscribeOK, "03 00 01 00", api.ErrForm},
		{word.SubscribeOK, "03 00", api.ErrForm},
		// The versions.
		{word.ClientSetup, "08 01 01 01 01 01 01 01 01 10", api.OK},
		{word.ClientSetup, "09 01 01 01 01 01 01 01 01 01 10", api.ErrForm},
		{word.ClientSetup, "00 10", api.ErrForm},
		{word.ClientSetup, "02 01 10", api.ErrForm},
		{word.ClientSetup, "01 01 01 10", api.ErrForm},
		{word.ClientSetup, "ffffffffffffffff 01 10", api.ErrForm},
	} {
		p := framed(x.kind, unhex(x.body))
		if x.want != api.OK {
			checkError(t, p, x.want)
		} else if m, _, e := word.Read(p); e != api.OK || m.Kind != x.kind {
			t.Errorf("Read(%x) = %+v, %d", p, m, e)
		}
	}
}

// Read doesn't copy what is after a message more than once.
func TestReadOfManyBytes(t *testing.T) {
	rest := make([]byte, 1_000_000)
	for _, x := range known {
		p := append(unhex(x.code), rest...)
		if m, left, e := word.Read(p); e != api.OK || !same(m, x.m) || !bytes.Equal(left, rest) {
			t.Errorf("Read of kind %x and many bytes leaves %d, %d", x.m.Kind, len(left), e)
		}
	}
}
