package frame_test

import (
	"bytes"
	"math"
	"math/rand/v2"
	"slices"
	"strings"
	"testing"

	"colonnade/api"
	"colonnade/frame"
	"colonnade/vint"
)

func mustRead(t *testing.T, p []byte) (api.Frame, []byte) {
	t.Helper()
	f, rest, e := frame.Read(p)
	if e != api.OK {
		t.Fatalf("Read(%x): %d", p, e)
	}
	return f, rest
}

func checkError(t *testing.T, p []byte, want api.Errno) {
	t.Helper()
	if f, rest, e := frame.Read(p); e != want || !zero(f) || len(rest) != 0 {
		t.Errorf("Read(%x) = %+v, %x, %d; want %d", p, f, rest, e, want)
	}
}

func TestRead(t *testing.T) {
	for _, x := range known {
		p := unhex(x.code)
		checkRead(t, p, x.f, nil)
		for _, rest := range []string{"01", "ff", "40", "02 00 00"} {
			checkRead(t, append(unhex(x.code), unhex(rest)...), x.f, unhex(rest))
		}
	}
}

// Each frame is incomplete wherever it is cut off, except Padding.
func TestReadOfIncomplete(t *testing.T) {
	checkError(t, nil, api.ErrShort)
	checkError(t, []byte{}, api.ErrShort)
	for _, x := range known {
		p := unhex(x.code)
		for n := range p {
			if n > 0 && x.f.Kind == api.Padding {
				continue
			}
			checkError(t, p[:n], api.ErrShort)
		}
	}
	for _, p := range []string{"40", "80", "800000", "c0", "c0000000000000", "ff"} {
		checkError(t, unhex(p), api.ErrShort)
	}
}

// Read takes what Bytes doesn't write: other encodings of numbers, types without the bits for a length or for an offset, an offset that is 0.
func TestReadOfOtherEncodings(t *testing.T) {
	ab := []byte("ab")
	for _, x := range []struct {
		p    string
		f    api.Frame
		rest string
	}{
		{"08 04 6162", api.Frame{Kind: api.Stream, ID: 4, Data: ab}, ""},
		{"08 04", api.Frame{Kind: api.Stream, ID: 4}, ""},
		{"09 04 6162", api.Frame{Kind: api.Stream, ID: 4, Data: ab, Fin: true}, ""},
		{"0a 04 02 6162 63", api.Frame{Kind: api.Stream, ID: 4, Data: ab}, "63"},
		{"0c 04 05 6162", api.Frame{Kind: api.Stream, ID: 4, Off: 5, Data: ab}, ""},
		{"0c 04 00 6162", api.Frame{Kind: api.Stream, ID: 4, Data: ab}, ""},
		{"0d 04 05", api.Frame{Kind: api.Stream, ID: 4, Off: 5, Fin: true}, ""},
		{"0e 04 00 02 6162", api.Frame{Kind: api.Stream, ID: 4, Data: ab}, ""},
		{"0f 4004 c000000000000005 80000002 6162 00", api.Frame{Kind: api.Stream, ID: 4, Off: 5, Data: ab, Fin: true}, "00"},
		{"30 6162", api.Frame{Kind: api.Datagram, Data: ab}, ""},
		{"30", api.Frame{Kind: api.Datagram}, ""},
		{"31 4002 6162 01", api.Frame{Kind: api.Datagram, Data: ab}, "01"},
		{"02 4009 80000000 4001 c000000000000002 4001 4000 07", api.Frame{Kind: api.Ack, Ranges: ranges(7, 9, 4, 4)}, "07"},
		{"04 4004 4005 80000006", api.Frame{Kind: api.ResetStream, ID: 4, Code: 5, Off: 6}, ""},
		{"06 4000 4001 61", api.Frame{Kind: api.Crypto, Data: ab[:1]}, ""},
		{"07 c000000000000001 61", api.Frame{Kind: api.NewToken, Data: ab[:1]}, ""},
		{"18 4003 80000002 01 6e 30313233343536373839616263646566 02", api.Frame{Kind: api.NewConnectionID, ID: 3, Off: 2, Data: []byte("n"), Token: []byte("0123456789abcdef")}, "02"},
		{"1c 400a 4006 4001 61", api.Frame{Kind: api.Close, Code: 10, N: 6, Data: ab[:1]}, ""},
		{"00 00 00 4000", api.Frame{Kind: api.Padding, N: 3}, "4000"},
		{"00 01 00", api.Frame{Kind: api.Padding, N: 1}, "0100"},
	} {
		checkRead(t, unhex(x.p), x.f, unhex(x.rest))
	}
	checkRead(t, unhex("08 04"+strings.Repeat("61", 70000)), api.Frame{Kind: api.Stream, ID: 4, Data: bytes.Repeat([]byte("a"), 70000)}, nil)
	checkRead(t, make([]byte, 70000), api.Frame{Kind: api.Padding, N: 70000}, nil)
	checkRead(t, unhex("02 9fff ffff 00 4bb7 00"+strings.Repeat("0000", 2999)), api.Frame{Kind: api.Ack, Ranges: lower(many(3000), 0x1fffffff-5998)}, nil)
}

// lower returns the ranges with by added to each number.
func lower(l []api.Range, by uint64) []api.Range {
	for i := range l {
		l[i].From += by
		l[i].To += by
	}
	return l
}

// A type that is no kind's, or is not in its minimal encoding, is wrong whatever follows.
func TestReadOfWrongTypes(t *testing.T) {
	types := slices.Concat(kinds, []uint64{0x09, 0x0a, 0x0b, 0x0c, 0x0d, 0x0e, 0x0f, 0x31})
	for n := range uint64(600) {
		if !slices.Contains(types, n) {
			code, _ := vint.Num(n)
			checkError(t, code, api.ErrForm)
			checkError(t, append(code, make([]byte, 60)...), api.ErrForm)
		}
	}
	for _, n := range []uint64{1<<8 | api.Ping, 1<<30 | api.Ping, 1<<32 | api.Ping, top} {
		checkError(t, wide(n, 8), api.ErrForm)
	}
	for _, n := range types {
		for _, size := range []int{2, 4, 8} {
			checkError(t, wide(n, size), api.ErrForm)
			checkError(t, append(wide(n, size), 1, 1, 1, 1, 1, 1, 1, 1, 1, 1), api.ErrForm)
		}
	}
	for _, x := range known {
		p := unhex(x.code)
		checkError(t, append([]byte{0x40}, p...), api.ErrForm)
	}
}

func TestReadOfInvalid(t *testing.T) {
	name := strings.Repeat("aa", 20)
	token := strings.Repeat("bb", 16)
	for _, x := range []struct {
		p    string
		want api.Errno
	}{
		// The first range goes below 0, and the rest is there or not.
		{"02 03 00 00 04", api.ErrForm},
		{"02 03 00 01 04", api.ErrForm},
		{"02 03 00 01 04 00", api.ErrForm},
		{"02 03 00 05 ffffffffffffffff", api.ErrForm},
		{"02 03 00 ffffffffffffffff 04", api.ErrForm},
		{"02 03 00 00", api.ErrShort},
		{"02 03 00 01 03", api.ErrShort},
		// The second one does.
		{"02 09 00 01 02 05 00", api.OK},
		{"02 09 00 01 02 06 00", api.ErrForm},
		{"02 09 00 01 02 06 00 01", api.ErrForm},
		{"02 09 00 01 02 07 00", api.ErrForm},
		{"02 09 00 01 02 ffffffffffffffff 00", api.ErrForm},
		{"02 09 00 01 02 01 04", api.OK},
		{"02 09 00 01 02 01 05", api.ErrForm},
		{"02 09 00 01 02 01 ffffffffffffffff", api.ErrForm},
		{"02 09 00 02 02 01 05", api.ErrForm},
		{"02 09 00 02 02 06 00", api.ErrForm},
		{"02 09 00 02 02 06 00 40", api.ErrForm},
		{"02 09 00 02 02 01 04 00 00", api.ErrForm},
		{"02 09 00 02 02 01 04 00", api.ErrShort},
		{"02 09 00 02 02 01 04", api.ErrShort},
		{"02 09 00 ffffffffffffffff 02 01 00", api.ErrShort},
		{"02 01 00 01 00 00 00", api.ErrForm},
		{"02 02 00 01 00 00 00", api.OK},
		{"02 02 00 01 01 00 00", api.ErrForm},
		// A range of which only the gap is there was not read yet.
		{"02 09 00 01 02 06", api.ErrShort},
		{"02 09 00 01 02 06 40", api.ErrShort},
		// Data up to the greatest number, and beyond.
		{"06 fffffffffffffffe 01 61", api.OK},
		{"06 ffffffffffffffff 01 61", api.ErrForm},
		{"06 ffffffffffffffff 01", api.ErrShort},
		{"0e 04 fffffffffffffffe 01 61", api.OK},
		{"0e 04 ffffffffffffffff 01 61", api.ErrForm},
		{"0e 04 ffffffffffffffff 01", api.ErrShort},
		{"0c 04 ffffffffffffffff", api.OK},
		{"0c 04 ffffffffffffffff 61", api.ErrForm},
		{"0d 04 fffffffffffffffe 6161", api.ErrForm},
		{"06 00 ffffffffffffffff 61", api.ErrShort},
		{"31 ffffffffffffffff 61", api.ErrShort},
		{"07 00", api.ErrForm},
		{"07 4000", api.ErrForm},
		{"07 40", api.ErrShort},
		// Numbers of streams.
		{"12 d000000000000000", api.OK},
		{"12 d000000000000001", api.ErrForm},
		{"13 d000000000000001", api.ErrForm},
		{"16 d000000000000001", api.ErrForm},
		{"17 ffffffffffffffff", api.ErrForm},
		{"17 ffffffffffffff", api.ErrShort},
		// Names: what is wrong shows as soon as the length is there.
		{"18 03 03 14" + name + token, api.OK},
		{"18 03 04 14" + name + token, api.ErrForm},
		{"18 03 04 14", api.ErrForm},
		{"18 03 04", api.ErrShort},
		{"18 03 03 00" + name + token, api.ErrForm},
		{"18 03 03 00", api.ErrForm},
		{"18 03 03 15" + "aa" + name + token, api.ErrForm},
		{"18 03 03 15", api.ErrForm},
		{"18 03 03 ff", api.ErrForm},
		{"18 03 03 41" + name + token, api.ErrForm},
		{"18 03 03 14", api.ErrShort},
		{"18 03 03 14" + name + "bb", api.ErrShort},
		{"1a 01020304050607", api.ErrShort},
	} {
		if x.want != api.OK {
			checkError(t, unhex(x.p), x.want)
		} else if f, _, e := frame.Read(unhex(x.p)); e != api.OK || zero(f) {
			t.Errorf("Read(%s) = %+v, %d", x.p, f, e)
		}
	}
}

func TestAll(t *testing.T) {
	var p []byte
	var want []api.Frame
	for _, x := range known {
		if x.f.Kind != api.Padding {
			p = append(p, unhex(x.code)...)
			want = append(want, x.f)
		}
	}
	p = append(p, 0, 0, 0x30, 1, 2)
	want = append(want, api.Frame{Kind: api.Padding, N: 2}, api.Frame{Kind: api.Datagram, Data: []byte{1, 2}})
	l, e := frame.All(p)
	if e != api.OK || !slices.EqualFunc(l, want, same) {
		t.Errorf("All(%x) = %+v, %d; want %+v", p, l, e, want)
	}
}

func TestAllErrors(t *testing.T) {
	pings := func(n int) []byte { return bytes.Repeat([]byte{1}, n) }
	for _, x := range []struct {
		what string
		p    []byte
		n    int
		want api.Errno
	}{
		{"nothing", nil, 0, api.ErrForm},
		{"the empty", []byte{}, 0, api.ErrForm},
		{"one", pings(1), 1, api.OK},
		{"MaxFrames", pings(api.MaxFrames), api.MaxFrames, api.OK},
		{"more", pings(api.MaxFrames + 1), 0, api.ErrForm},
		{"many more", pings(5000), 0, api.ErrForm},
		{"MaxFrames, the last of which is Padding", append(pings(api.MaxFrames-1), make([]byte, 900)...), api.MaxFrames, api.OK},
		{"more, the last of which is Padding", append(pings(api.MaxFrames), 0), 0, api.ErrForm},
		{"Padding", make([]byte, 5000), 1, api.OK},
		{"an incomplete one", unhex("01 01 06 00"), 0, api.ErrShort},
		{"an invalid one", unhex("01 01 07 00"), 0, api.ErrForm},
		{"an invalid one, then an incomplete one", unhex("01 03 06 00"), 0, api.ErrForm},
		{"an incomplete one, then an unknown type", unhex("01 06 00 05 03"), 0, api.ErrShort},
		{"more, and an incomplete one", append(pings(api.MaxFrames+1), 6), 0, api.ErrShort},
		{"more, and an unknown type", append(pings(api.MaxFrames+1), 3), 0, api.ErrForm},
	} {
		l, e := frame.All(x.p)
		if e != x.want || len(l) != x.n {
			t.Errorf("All of %s = %+v, %d; want %d frames, %d", x.what, l, e, x.n, x.want)
		}
	}
}

// All doesn't copy what is left for each frame.
func TestAllOfManyBytes(t *testing.T) {
	if _, e := frame.All(bytes.Repeat([]byte{1}, 2_000_000)); e != api.ErrForm {
		t.Errorf("All of two million frames: %d", e)
	}
}

// draw returns a valid frame of the kind.
func draw(random *rand.Rand, kind uint64) api.Frame {
	number := func(most uint64) uint64 { return random.Uint64N(most>>random.IntN(61) + 1) }
	data := func() []byte { return text(random.IntN(100)) }
	f := api.Frame{Kind: kind}
	switch kind {
	case api.Padding:
		f.N = 1 + number(api.MaxPacket-1)
	case api.Ack:
		f.N = number(top)
		at := number(top)
		for len(f.Ranges) < 1+random.IntN(api.MaxRanges) {
			from := at - random.Uint64N(at>>random.IntN(61)+1)
			f.Ranges = append(f.Ranges, api.Range{From: from, To: at})
			if from < 2 {
				break
			}
			at = from - 2 - random.Uint64N((from-2)>>random.IntN(61)+1)
		}
	case api.ResetStream:
		f.ID, f.Code, f.Off = number(top), number(top), number(top)
	case api.StopSending:
		f.ID, f.Code = number(top), number(top)
	case api.Crypto:
		f.Data = data()
		f.Off = number(top - uint64(len(f.Data)))
	case api.NewToken:
		f.Data = text(1 + random.IntN(100))
	case api.Stream:
		f.Data = data()
		f.ID, f.Off, f.Fin = number(top), number(top-uint64(len(f.Data))), random.IntN(2) == 0
	case api.MaxData, api.DataBlocked:
		f.N = number(top)
	case api.MaxStreamData, api.StreamBlocked:
		f.ID, f.N = number(top), number(top)
	case api.StreamsBidi, api.StreamsUni, api.BidiBlocked, api.UniBlocked:
		f.N = number(1 << 60)
	case api.NewConnectionID:
		f.ID = number(top)
		f.Off = number(f.ID)
		f.Data, f.Token = text(1+random.IntN(20)), text(16)
	case api.RetireID:
		f.ID = number(top)
	case api.PathChallenge, api.PathResponse:
		f.Data = text(8)
	case api.Close:
		f.Code, f.N, f.Data = number(top), number(top), data()
	case api.CloseApp:
		f.Code, f.Data = number(top), data()
	case api.Datagram:
		f.Data = data()
	}
	return f
}

// What Join writes, All reads.
func TestAllOfJoin(t *testing.T) {
	random := rand.New(rand.NewPCG(5, 1))
	for range 3000 {
		var l []api.Frame
		for range 1 + random.IntN(20) {
			kind := kinds[random.IntN(len(kinds))]
			if len(l) > 0 && kind == api.Padding && l[len(l)-1].Kind == api.Padding {
				continue
			}
			l = append(l, draw(random, kind))
		}
		p, e := frame.Join(l...)
		if e != api.OK {
			t.Fatalf("Join(%+v): %d", l, e)
		}
		m, e := frame.All(p)
		if e != api.OK || !slices.EqualFunc(l, m, same) {
			t.Fatalf("All(%x) = %+v, %d; want %+v", p, m, e, l)
		}
	}
}

// Whatever the bytes are, what Read takes as a frame is a valid one: Bytes writes it, and Read takes it again.
func TestReadOfAnyBytes(t *testing.T) {
	random := rand.New(rand.NewPCG(5, 2))
	found := map[uint64]int{}
	for range 300000 {
		p := make([]byte, random.IntN(60))
		for i := range p {
			p[i] = byte(random.Uint32()) >> random.IntN(8)
		}
		if len(p) > 0 {
			p[0] = byte(random.IntN(0x34))
		}
		f, rest, e := frame.Read(p)
		if e != api.OK {
			if e != api.ErrShort && e != api.ErrForm || !zero(f) || len(rest) != 0 {
				t.Fatalf("Read(%x) = %+v, %x, %d", p, f, rest, e)
			}
			continue
		}
		found[f.Kind]++
		if !bytes.HasSuffix(p, rest) || len(rest) >= len(p) {
			t.Fatalf("Read(%x) leaves %x", p, rest)
		}
		q, e := frame.Bytes(f)
		if e == api.ErrForm && len(f.Ranges) > api.MaxRanges {
			continue
		}
		if e != api.OK {
			t.Fatalf("Bytes(%+v) as read from %x: %d", f, p, e)
		}
		if g, left, e := frame.Read(q); e != api.OK || len(left) != 0 || !same(f, g) {
			t.Fatalf("Read(%x) = %+v, %x, %d; want %+v", q, g, left, e, f)
		}
	}
	for _, kind := range kinds {
		if found[kind] < 100 {
			t.Errorf("only %d frames of kind %x were read", found[kind], kind)
		}
	}
}

// No call panics, whatever the fields are.
func TestBytesOfAnyFields(t *testing.T) {
	random := rand.New(rand.NewPCG(5, 3))
	ends := []uint64{0, 0, 0, 1, 2, 3, 63, 64, api.MaxPacket, 1 << 60, top - 1, top, top + 1, math.MaxUint64 - 1, math.MaxUint64}
	end := func() uint64 { return ends[random.IntN(len(ends))] }
	for range 200000 {
		f := api.Frame{Kind: kinds[random.IntN(len(kinds))]}
		for _, field := range []*uint64{&f.ID, &f.Off, &f.N, &f.Code} {
			if random.IntN(3) == 0 {
				*field = end()
			}
		}
		f.Data = text([]int{0, 0, 1, 8, 20, 1200, 1201}[random.IntN(7)])
		f.Token = text([]int{0, 0, 15, 16, 17}[random.IntN(5)])
		for range []int{0, 0, 1, 2, 3, 17}[random.IntN(6)] {
			f.Ranges = append(f.Ranges, api.Range{From: end(), To: end()})
		}
		p, e := frame.Bytes(f)
		if e != api.OK {
			continue
		}
		if g, rest, e := frame.Read(p); e != api.OK || len(rest) != 0 || !same(f, g) {
			t.Fatalf("Read(%x) = %+v, %x, %d; want %+v", p, g, rest, e, f)
		}
	}
}
