package frame_test

import (
	"bytes"
	"math"
	"slices"
	"testing"

	"colonnade/api"
	"colonnade/frame"
)

func TestBytes(t *testing.T) {
	seen := map[uint64]bool{}
	for _, x := range known {
		seen[x.f.Kind] = true
		if p, e := frame.Bytes(x.f); e != api.OK || !bytes.Equal(p, unhex(x.code)) {
			t.Errorf("Bytes(%+v) = %x, %d; want %s", x.f, p, e, x.code)
		}
	}
	if len(seen) != len(kinds) {
		t.Errorf("%d of %d kinds are tested", len(seen), len(kinds))
	}
}

func checkBytes(t *testing.T, f api.Frame, want api.Errno) {
	t.Helper()
	if p, e := frame.Bytes(f); e != want || (len(p) > 0) != (want == api.OK) {
		t.Errorf("Bytes(%+v) = %x, %d; want %d", f, p, e, want)
	}
}

// Each field that isn't one of the kind's makes a frame invalid.
func TestBytesOfForeignFields(t *testing.T) {
	fields := map[string]func(*api.Frame){
		"ID":     func(f *api.Frame) { f.ID = 1 },
		"Off":    func(f *api.Frame) { f.Off = 1 },
		"N":      func(f *api.Frame) { f.N = 1 },
		"Code":   func(f *api.Frame) { f.Code = 1 },
		"Fin":    func(f *api.Frame) { f.Fin = true },
		"Data":   func(f *api.Frame) { f.Data = []byte("01234567") },
		"Token":  func(f *api.Frame) { f.Token = []byte("0123456789abcdef") },
		"Ranges": func(f *api.Frame) { f.Ranges = ranges(4, 5) },
	}
	own := map[uint64][]string{
		api.Padding:         {"N"},
		api.Ack:             {"N", "Ranges"},
		api.ResetStream:     {"ID", "Code", "Off"},
		api.StopSending:     {"ID", "Code"},
		api.Crypto:          {"Off", "Data"},
		api.NewToken:        {"Data"},
		api.Stream:          {"ID", "Off", "Data", "Fin"},
		api.MaxData:         {"N"},
		api.MaxStreamData:   {"ID", "N"},
		api.StreamsBidi:     {"N"},
		api.StreamsUni:      {"N"},
		api.DataBlocked:     {"N"},
		api.StreamBlocked:   {"ID", "N"},
		api.BidiBlocked:     {"N"},
		api.UniBlocked:      {"N"},
		api.NewConnectionID: {"ID", "Off", "Data", "Token"},
		api.RetireID:        {"ID"},
		api.PathChallenge:   {"Data"},
		api.PathResponse:    {"Data"},
		api.Close:           {"Code", "N", "Data"},
		api.CloseApp:        {"Code", "Data"},
		api.Datagram:        {"Data"},
	}
	for _, kind := range kinds {
		f := api.Frame{Kind: kind}
		for _, field := range own[kind] {
			fields[field](&f)
		}
		checkBytes(t, f, api.OK)
		for field, set := range fields {
			if slices.Contains(own[kind], field) {
				continue
			}
			g := f
			set(&g)
			if p, e := frame.Bytes(g); e != api.ErrForm || len(p) != 0 {
				t.Errorf("Bytes of kind %x with %s = %x, %d; want ErrForm", kind, field, p, e)
			}
		}
	}
}

// Only the least type of a kind is the kind.
func TestBytesOfUnknownKinds(t *testing.T) {
	for kind := range uint64(300) {
		if !slices.Contains(kinds, kind) {
			checkBytes(t, api.Frame{Kind: kind}, api.ErrForm)
			checkBytes(t, api.Frame{Kind: kind, ID: 4, Data: []byte("ab")}, api.ErrForm)
			checkBytes(t, api.Frame{Kind: kind, Data: []byte("ab")}, api.ErrForm)
		}
	}
	for _, kind := range []uint64{1 << 8, 1<<32 | api.Ping, 1<<62 | api.Ping, 1<<63 | api.Ping, top, math.MaxUint64} {
		checkBytes(t, api.Frame{Kind: kind}, api.ErrForm)
	}
}

func TestBytesOfInvalid(t *testing.T) {
	token := make([]byte, 16)
	for _, f := range []api.Frame{
		{Kind: api.Padding},
		{Kind: api.Ack},
		{Kind: api.Ack, N: top + 1, Ranges: ranges(1, 2)},
		{Kind: api.Ack, Ranges: ranges(2, 1)},
		{Kind: api.Ack, Ranges: ranges(1, top+1)},
		{Kind: api.Ack, Ranges: ranges(top+1, top+1)},
		{Kind: api.Ack, Ranges: ranges(math.MaxUint64, math.MaxUint64)},
		{Kind: api.Ack, Ranges: ranges(7, 9, 6, 6)},
		{Kind: api.Ack, Ranges: ranges(7, 9, 5, 7)},
		{Kind: api.Ack, Ranges: ranges(7, 9, 7, 9)},
		{Kind: api.Ack, Ranges: ranges(7, 9, 20, 21)},
		{Kind: api.Ack, Ranges: ranges(4, 4, 7, 9)},
		{Kind: api.Ack, Ranges: ranges(7, 9, 4, 3)},
		{Kind: api.Ack, Ranges: ranges(7, 9, 3, math.MaxUint64)},
		{Kind: api.Ack, Ranges: ranges(7, 9, math.MaxUint64, math.MaxUint64)},
		{Kind: api.Ack, Ranges: ranges(7, 9, math.MaxUint64-1, math.MaxUint64-1)},
		{Kind: api.Ack, Ranges: ranges(0, 9, 0, 0)},
		{Kind: api.Ack, Ranges: ranges(1, 9, 0, 0)},
		{Kind: api.Ack, Ranges: ranges(0, 9, math.MaxUint64, math.MaxUint64)},
		{Kind: api.Ack, Ranges: ranges(9, 9, 5, 5, 4, 4)},
		{Kind: api.Ack, Ranges: many(17)},
		{Kind: api.Ack, Ranges: many(2000)},
		{Kind: api.ResetStream, ID: top + 1},
		{Kind: api.ResetStream, Code: top + 1},
		{Kind: api.ResetStream, Off: top + 1},
		{Kind: api.StopSending, ID: top + 1},
		{Kind: api.StopSending, Code: math.MaxUint64},
		{Kind: api.Crypto, Off: top + 1},
		{Kind: api.Crypto, Off: math.MaxUint64},
		{Kind: api.Crypto, Off: math.MaxUint64, Data: []byte("ab")},
		{Kind: api.Crypto, Off: top - 1, Data: []byte("ab")},
		{Kind: api.Crypto, Off: top, Data: []byte("a")},
		{Kind: api.NewToken},
		{Kind: api.Stream, ID: top + 1},
		{Kind: api.Stream, Off: top + 1},
		{Kind: api.Stream, Off: top, Data: []byte("a")},
		{Kind: api.Stream, Off: math.MaxUint64, Data: []byte("ab"), Fin: true},
		{Kind: api.MaxData, N: top + 1},
		{Kind: api.MaxStreamData, ID: top + 1},
		{Kind: api.MaxStreamData, N: top + 1},
		{Kind: api.StreamsBidi, N: 1<<60 + 1},
		{Kind: api.StreamsUni, N: 1<<60 + 1},
		{Kind: api.BidiBlocked, N: 1<<60 + 1},
		{Kind: api.UniBlocked, N: 1<<60 + 1},
		{Kind: api.UniBlocked, N: math.MaxUint64},
		{Kind: api.DataBlocked, N: top + 1},
		{Kind: api.StreamBlocked, ID: top + 1},
		{Kind: api.StreamBlocked, N: top + 1},
		{Kind: api.NewConnectionID, Token: token},
		{Kind: api.NewConnectionID, Data: text(21), Token: token},
		{Kind: api.NewConnectionID, Data: text(257), Token: token},
		{Kind: api.NewConnectionID, Data: text(1)},
		{Kind: api.NewConnectionID, Data: text(1), Token: token[:15]},
		{Kind: api.NewConnectionID, Data: text(1), Token: make([]byte, 17)},
		{Kind: api.NewConnectionID, ID: 2, Off: 3, Data: text(1), Token: token},
		{Kind: api.NewConnectionID, ID: top + 1, Data: text(1), Token: token},
		{Kind: api.NewConnectionID, ID: top + 1, Off: top + 1, Data: text(1), Token: token},
		{Kind: api.RetireID, ID: top + 1},
		{Kind: api.PathChallenge},
		{Kind: api.PathChallenge, Data: text(7)},
		{Kind: api.PathChallenge, Data: text(9)},
		{Kind: api.PathResponse},
		{Kind: api.PathResponse, Data: text(7)},
		{Kind: api.PathResponse, Data: text(9)},
		{Kind: api.Close, Code: top + 1},
		{Kind: api.Close, N: top + 1},
		{Kind: api.CloseApp, Code: top + 1},
	} {
		checkBytes(t, f, api.ErrForm)
	}
}

// What is too long is reported before what is invalid.
func TestBytesOfLong(t *testing.T) {
	checkBytes(t, api.Frame{Kind: api.Padding, N: api.MaxPacket}, api.OK)
	for _, n := range []uint64{api.MaxPacket + 1, top, top + 1, math.MaxUint64} {
		checkBytes(t, api.Frame{Kind: api.Padding, N: n}, api.ErrLong)
		checkBytes(t, api.Frame{Kind: api.Padding, N: n, ID: 1, Ranges: ranges(1, 2)}, api.ErrLong)
	}
	for _, kind := range []uint64{api.Crypto, api.NewToken, api.Stream, api.Close, api.CloseApp, api.Datagram} {
		checkBytes(t, api.Frame{Kind: kind, Data: text(api.MaxPacket)}, api.OK)
		checkBytes(t, api.Frame{Kind: kind, Data: text(api.MaxPacket + 1)}, api.ErrLong)
		checkBytes(t, api.Frame{Kind: kind, Data: text(api.MaxPacket), Token: text(16)}, api.ErrForm)
		checkBytes(t, api.Frame{Kind: kind, Data: text(api.MaxPacket + 1), Token: text(16)}, api.ErrLong)
	}
	for _, kind := range []uint64{api.Padding, api.Ping, api.Ack, api.NewConnectionID, api.PathChallenge, 0x09, 0x03, math.MaxUint64} {
		checkBytes(t, api.Frame{Kind: kind, Data: text(api.MaxPacket)}, api.ErrForm)
		checkBytes(t, api.Frame{Kind: kind, Data: text(api.MaxPacket + 1)}, api.ErrLong)
	}
	checkBytes(t, api.Frame{Kind: api.MaxData, N: api.MaxPacket + 1}, api.OK)
	checkBytes(t, api.Frame{Kind: api.Ping, Token: text(api.MaxPacket + 1)}, api.ErrForm)
	checkBytes(t, api.Frame{Kind: api.Ack, Ranges: many(api.MaxRanges)}, api.OK)
}

func TestJoin(t *testing.T) {
	var l []api.Frame
	var want []byte
	for _, x := range known {
		l = append(l, x.f)
		want = append(want, unhex(x.code)...)
	}
	if p, e := frame.Join(l...); e != api.OK || !bytes.Equal(p, want) {
		t.Errorf("Join of all = %x, %d; want %x", p, e, want)
	}
	if p, e := frame.Join(); e != api.OK || len(p) != 0 {
		t.Errorf("Join() = %x, %d", p, e)
	}
	ping := api.Frame{Kind: api.Ping}
	long := api.Frame{Kind: api.Padding, N: api.MaxPacket + 1}
	wrong := api.Frame{Kind: api.NewToken}
	for _, x := range []struct {
		l    []api.Frame
		want api.Errno
	}{
		{[]api.Frame{ping, long, wrong}, api.ErrLong},
		{[]api.Frame{ping, wrong, long}, api.ErrForm},
		{[]api.Frame{wrong}, api.ErrForm},
		{[]api.Frame{ping, ping, long}, api.ErrLong},
	} {
		if p, e := frame.Join(x.l...); e != x.want || len(p) != 0 {
			t.Errorf("Join(%+v) = %x, %d; want %d", x.l, p, e, x.want)
		}
	}
	// The limits of packets are not Join's.
	if p, e := frame.Join(slices.Repeat([]api.Frame{{Kind: api.Crypto, Data: text(api.MaxPacket)}}, 300)...); e != api.OK || len(p) != 300*(api.MaxPacket+4) {
		t.Errorf("Join of 300 frames has %d bytes, %d", len(p), e)
	}
}
