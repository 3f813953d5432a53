package line_test

import (
	"bytes"
	"slices"
	"testing"

	"colonnade/api"
	"colonnade/frame"
	"colonnade/greet"
	"colonnade/line"
	"colonnade/parcel"
)

const (
	stream0 = 0 // of the client, both ways
	streamU = 2 // of the client, one way
	serverU = 3 // of the server, one way
)

func joinFrames(t *testing.T, l ...api.Frame) []byte {
	t.Helper()
	p, e := frame.Join(l...)
	checkErrno(t, "Join", e, api.OK)
	return p
}

func crypto(off uint64, n int) api.Frame {
	return api.Frame{Kind: api.Crypto, Off: off, Data: make([]byte, n)}
}

func streamFrame(id, off uint64, data string, fin bool) api.Frame {
	return api.Frame{Kind: api.Stream, ID: id, Off: off, Data: []byte(data), Fin: fin}
}

func gram(n int) api.Frame {
	return api.Frame{Kind: api.Datagram, Data: pattern(n)}
}

// Each error closes the connection with its code, and the other side is told it.
func TestCodes(t *testing.T) {
	ping := api.Frame{Kind: api.Ping}
	done := api.Frame{Kind: api.HandshakeDone}
	token := api.Frame{Kind: api.NewToken, Data: []byte("t")}
	for _, x := range []struct {
		what   string
		server bool
		level  int
		frames []api.Frame
		tail   []byte // after the frames
		code   uint64
	}{
		{"no frames", true, api.App, nil, nil, api.ProtocolViolation},
		{"no frames", false, api.App, nil, nil, api.ProtocolViolation},
		{"no frames", true, api.Initial, nil, nil, api.ProtocolViolation},
		{"no frames", false, api.Handshake, nil, nil, api.ProtocolViolation},
		{"an unknown type", true, api.App, []api.Frame{ping}, []byte{0x1f}, api.FrameEncoding},
		{"an unknown type", false, api.Initial, nil, []byte{0x1f, 0, 0}, api.FrameEncoding},
		{"a type that is not minimal", true, api.App, nil, []byte{0x40, 0x01, 0}, api.FrameEncoding},
		{"an incomplete frame", true, api.App, []api.Frame{ping, ping, ping}, []byte{0x0a, 0}, api.FrameEncoding},
		{"too many frames", true, api.App, slices.Repeat([]api.Frame{ping}, 201), nil, api.FrameEncoding},
		{"bytes that are no frames after a frame that is wrong", true, api.App, []api.Frame{done}, []byte{0x1f}, api.FrameEncoding},
		{"bytes that are no frames after Close", true, api.App, []api.Frame{{Kind: api.Close, Code: 5}}, []byte{0x1f}, api.FrameEncoding},
		{"bytes that are no frames after a frame that does not fit", false, api.Initial, []api.Frame{gram(3)}, []byte{0x1f}, api.FrameEncoding},

		{"a stream at Initial", true, api.Initial, []api.Frame{streamFrame(0, 0, "x", false)}, nil, api.ProtocolViolation},
		{"a stream at Handshake", false, api.Handshake, []api.Frame{streamFrame(1, 0, "x", false)}, nil, api.ProtocolViolation},
		{"CloseApp at Initial", true, api.Initial, []api.Frame{{Kind: api.CloseApp, Code: 5}}, nil, api.ProtocolViolation},
		{"CloseApp at Handshake", false, api.Handshake, []api.Frame{{Kind: api.CloseApp, Code: 5}}, nil, api.ProtocolViolation},
		{"HandshakeDone at Handshake", false, api.Handshake, []api.Frame{ping, done}, nil, api.ProtocolViolation},
		{"PathChallenge at Initial", false, api.Initial, []api.Frame{{Kind: api.PathChallenge, Data: make([]byte, 8)}}, nil, api.ProtocolViolation},
		{"MaxData at Handshake", true, api.Handshake, []api.Frame{{Kind: api.MaxData, N: 1}}, nil, api.ProtocolViolation},
		{"a datagram frame at Initial", true, api.Initial, []api.Frame{gram(1)}, nil, api.ProtocolViolation},

		{"an Ack of what was not sent", true, api.App, []api.Frame{acks(api.Range{From: 100, To: 100})}, nil, api.ProtocolViolation},
		{"an Ack of what was not sent", false, api.Handshake, []api.Frame{acks(api.Range{From: 0, To: 100})}, nil, api.ProtocolViolation},
		{"an Ack of the largest number", true, api.Initial, []api.Frame{acks(api.Range{From: api.MaxNum, To: api.MaxNum})}, nil, api.ProtocolViolation},
		{"Crypto beyond", true, api.App, []api.Frame{crypto(1, 1000), crypto(4096, 1)}, nil, api.CryptoBuffer},
		{"Crypto beyond without bytes", false, api.App, []api.Frame{crypto(4097, 0)}, nil, api.CryptoBuffer},
		{"Crypto far beyond", true, api.Initial, []api.Frame{crypto(api.MaxNum, 0)}, nil, api.CryptoBuffer},
		{"Crypto at App", true, api.App, []api.Frame{crypto(0, 1)}, nil, api.CryptoError + 10},
		{"Crypto at App", false, api.App, []api.Frame{crypto(1, 1), crypto(0, 1)}, nil, api.CryptoError + 10},
		{"NewToken at a server", true, api.App, []api.Frame{token}, nil, api.ProtocolViolation},
		{"HandshakeDone at a server", true, api.App, []api.Frame{done}, nil, api.ProtocolViolation},
		{"a datagram frame that is too long", true, api.App, []api.Frame{gram(1001)}, nil, api.ProtocolViolation},
		{"a datagram frame that is too long", false, api.App, []api.Frame{gram(1001)}, nil, api.ProtocolViolation},

		{"bytes on the own stream of one way", true, api.App, []api.Frame{streamFrame(serverU, 0, "x", false)}, nil, api.StreamState},
		{"bytes on the own stream of one way", false, api.App, []api.Frame{streamFrame(streamU, 0, "x", false)}, nil, api.StreamState},
		{"a stream too many", true, api.App, []api.Frame{streamFrame(40, 0, "x", false)}, nil, api.StreamLimit},
		{"two ends", true, api.App, []api.Frame{streamFrame(streamU, 0, "abc", true), streamFrame(streamU, 0, "ab", true)}, nil, api.FinalSize},
		{"too many bytes", true, api.App, []api.Frame{streamFrame(streamU, 1<<18, "x", false)}, nil, api.FlowControl},

		{"the first error counts", true, api.App, []api.Frame{ping, done, streamFrame(serverU, 0, "x", false)}, nil, api.ProtocolViolation},
		{"the first error counts", true, api.App, []api.Frame{ping, streamFrame(serverU, 0, "x", false), done}, nil, api.StreamState},
		{"the first error counts", true, api.Initial, []api.Frame{crypto(api.MaxNum, 0), gram(1)}, nil, api.CryptoBuffer},
	} {
		l, h := either(t, x.server)
		pn := h.next[x.level]
		l.Receive(h.plain(x.level, pn, append(joinFrames(t, x.frames...), x.tail...)), 5)
		if code, _, _ := l.Code(); code != x.code {
			t.Fatalf("%s at level %d: the code is %x; want %x", x.what, x.level, code, x.code)
		}
		checkEnd(t, l, line.Closed, x.code, false)
		checkFarewell(t, h, l.Send(5), api.Frame{Kind: api.Close, Code: x.code})
		if l.Send(6) != nil {
			t.Fatal("it is told twice")
		}
	}
}

// checkFarewell checks that a side tells with which code it closed, in one datagram.
func checkFarewell(t *testing.T, h *hand, sent [][]byte, want api.Frame) {
	t.Helper()
	if len(sent) != 1 {
		t.Fatalf("%d datagrams", len(sent))
	}
	l := h.hears(t, sent)
	last := l[len(l)-1]
	frames := slices.DeleteFunc(last.frames, func(f api.Frame) bool { return f.Kind == api.Padding })
	if len(frames) != 1 {
		t.Fatalf("the last packet has %d frames", len(frames))
	}
	checkFrame(t, "the farewell", frames[0], want)
}

// What is no error, as near to one as can be.
func TestNoErrors(t *testing.T) {
	ping := api.Frame{Kind: api.Ping}
	for _, x := range []struct {
		what   string
		server bool
		level  int
		frames []api.Frame
	}{
		{"200 frames", true, api.App, slices.Repeat([]api.Frame{ping}, 200)},
		{"NewToken at a client", false, api.App, []api.Frame{{Kind: api.NewToken, Data: []byte("t")}}},
		{"HandshakeDone at a client", false, api.App, []api.Frame{{Kind: api.HandshakeDone}}},
		{"Crypto up to the bound", true, api.App, []api.Frame{crypto(1, 1000), crypto(4096, 0), crypto(4095, 1)}},
		{"Crypto that was read", true, api.Initial, []api.Frame{crypto(0, 5), crypto(5, 3)}},
		{"Ping at Initial", true, api.Initial, []api.Frame{ping, {Kind: api.Padding, N: 20}}},
		{"Ping at Handshake", false, api.Handshake, []api.Frame{{Kind: api.Padding, N: 20}, ping}},
		{"a datagram frame as long as may be", true, api.App, []api.Frame{gram(1000)}},
		{"a datagram frame without bytes", false, api.App, []api.Frame{gram(0)}},
		{"PathResponse", true, api.App, []api.Frame{{Kind: api.PathResponse, Data: make([]byte, 8)}}},
		{"NewConnectionID", false, api.App, []api.Frame{{Kind: api.NewConnectionID, ID: 1, Data: []byte("n"), Token: make([]byte, 16)}}},
		{"RetireID", true, api.App, []api.Frame{{Kind: api.RetireID, ID: 7}}},
		{"the blocked frames", true, api.App, []api.Frame{{Kind: api.DataBlocked, N: 1}, {Kind: api.StreamBlocked, ID: serverU, N: 1}, {Kind: api.BidiBlocked, N: 1}, {Kind: api.UniBlocked, N: 1}}},
		{"limits", true, api.App, []api.Frame{{Kind: api.MaxData, N: 1}, {Kind: api.StreamsBidi, N: 1}, {Kind: api.StreamsUni, N: 1}}},
	} {
		l, h := either(t, x.server)
		pn := h.next[x.level]
		l.Receive(h.says(x.level, x.frames...), 5)
		checkOpen(t, l, line.Up)
		sent := h.hears(t, l.Send(5))
		checkKinds(t, x.what, sent, api.Ack)
		if r := sent[0].frames[0].Ranges[0]; r.To != pn || sent[0].head.Level != x.level {
			t.Fatalf("%s: acknowledged up to %d at %d; want %d at %d", x.what, r.To, sent[0].head.Level, pn, x.level)
		}
		if !l.Idle() || len(l.Came()) != 0 {
			t.Fatalf("%s had an effect", x.what)
		}
	}
}

// Frames before the first error have had their effect; those after it have none.
func TestFramesUpToTheError(t *testing.T) {
	l, h := greeted(t, serverConfig(), 0)
	l.Receive(h.says(api.App, streamFrame(streamU, 0, "abc", true), gram(3), api.Frame{Kind: api.HandshakeDone}, streamFrame(6, 0, "x", true), gram(4)), 5)
	checkEnd(t, l, line.Closed, api.ProtocolViolation, false)
	if c := l.Came(); !slices.Equal(c, []uint64{streamU}) {
		t.Fatalf("Came = %d", c)
	}
	p, done, _, e := l.Read(streamU, 9)
	if string(p) != "abc" || !done || e != api.OK {
		t.Fatalf("Read = %q, %v, %d", p, done, e)
	}
	if g := l.Grams(); len(g) != 1 || !bytes.Equal(g[0], pattern(3)) {
		t.Fatalf("Grams = %x", g)
	}
}

// The packets after the first error have no effect, but are opened.
func TestPacketsAfterTheError(t *testing.T) {
	l, h := greeted(t, serverConfig(), 0)
	was := l.Opened()
	l.Receive(slices.Concat(h.says(api.Initial, gram(1)), h.says(api.Handshake, api.Frame{Kind: api.Close, Code: 7})), 5)
	checkEnd(t, l, line.Closed, api.ProtocolViolation, false)
	if n := l.Opened(); n != was+2 {
		t.Fatalf("Opened = %d; want %d", n, was+2)
	}
	checkFarewell(t, h, l.Send(5), api.Frame{Kind: api.Close, Code: api.ProtocolViolation})
}

// After Close or CloseApp the connection is gone: nothing has an effect and nothing is sent.
func TestGone(t *testing.T) {
	for _, server := range []bool{true, false} {
		for _, x := range []struct {
			level int
			frame api.Frame
			app   bool
		}{
			{api.Initial, api.Frame{Kind: api.Close, Code: 7, N: 5, Data: []byte("reason")}, false},
			{api.Handshake, api.Frame{Kind: api.Close, Code: 0}, false},
			{api.App, api.Frame{Kind: api.Close, Code: api.MaxNum}, false},
			{api.App, api.Frame{Kind: api.CloseApp, Code: 9, Data: []byte("reason")}, true},
		} {
			l, h := either(t, server)
			id := write(t, l, 10)
			h.hears(t, l.Send(1))
			checkErrno(t, "Write", l.Write(id, pattern(10), false), api.OK)
			l.Receive(h.says(x.level, api.Frame{Kind: api.Ping}, x.frame, crypto(api.MaxNum, 0)), 5)
			checkEnd(t, l, line.Gone, x.frame.Code, x.app)
			l.Receive(h.says(api.App, api.Frame{Kind: api.HandshakeDone}, gram(1)), 6)
			l.Receive(h.says(api.App, api.Frame{Kind: api.CloseApp, Code: 1}), 7)
			checkEnd(t, l, line.Gone, x.frame.Code, x.app)
			if sent := l.Send(1000); len(sent) > 0 || len(l.Grams()) > 0 {
				t.Fatal("something is sent or received")
			}
			checkNotDue(t, l)
		}
	}
}

// The code of the handshake closes the connection.
func TestCodesOfTheHandshake(t *testing.T) {
	for _, x := range []struct {
		what   string
		change func(*line.Config)
		code   uint64
	}{
		{"another secret", func(c *line.Config) { c.Secret = []byte("another") }, api.CryptoError + 51},
		{"another identity", func(c *line.Config) { c.Identity = []byte("another") }, api.CryptoError + 115},
	} {
		c := clientConfig()
		x.change(&c)
		a, b := line.New(c, 0), line.New(serverConfig(), 0)
		deliver(b, a.Send(0), 0)
		checkEnd(t, b, line.Closed, x.code, false)
		deliver(a, b.Send(0), 0)
		checkEnd(t, a, line.Gone, x.code, false)
	}
	for body, code := range map[string]uint64{"\x02\x00\x00\x00": api.CryptoError + 10, "\x01\x00\x00\x00": api.CryptoError + 50, "\x01\x00\x10\x00": api.CryptoError + 50} {
		l, h := line.New(serverConfig(), 0), newHand(clientConfig())
		l.Receive(h.says(api.Initial, api.Frame{Kind: api.Crypto, Data: []byte(body)}), 0)
		checkEnd(t, l, line.Closed, code, false)
		checkFarewell(t, h, l.Send(0), api.Frame{Kind: api.Close, Code: code})
	}
}

// A server whose Finished is wrong: the client closes.
func TestWrongFinished(t *testing.T) {
	l, h := line.New(clientConfig(), 0), newHand(serverConfig())
	h.hears(t, l.Send(0))
	out := h.out()
	l.Receive(h.says(api.Initial, out[api.Initial]), 0)
	checkOpen(t, l, line.Greeting)
	f := out[api.Handshake]
	f.Data[len(f.Data)-1] ^= 1
	l.Receive(h.says(api.Handshake, f), 0)
	checkEnd(t, l, line.Closed, api.CryptoError+51, false)
	checkFarewell(t, h, l.Send(0), api.Frame{Kind: api.Close, Code: api.CryptoError + 51})
}

// Parameters that are none close the connection, at either side.
func TestInvalidParameters(t *testing.T) {
	wrong := []byte{1, 1, 5, 1, 1, 5}
	l, h := line.New(serverConfig(), 0), newHand(clientConfig())
	h.machine = machineOf(clientConfig(), wrong)
	l.Receive(h.says(api.Initial, h.out()[api.Initial]), 0)
	checkEnd(t, l, line.Closed, api.TransportParameter, false)
	checkFarewell(t, h, l.Send(0), api.Frame{Kind: api.Close, Code: api.TransportParameter})

	l, h = line.New(clientConfig(), 0), newHand(serverConfig())
	h.machine = machineOf(serverConfig(), wrong)
	h.hears(t, l.Send(0))
	out := h.out()
	l.Receive(slices.Concat(h.says(api.Initial, out[api.Initial]), h.says(api.Handshake, out[api.Handshake])), 0)
	checkEnd(t, l, line.Closed, api.TransportParameter, false)
	checkFarewell(t, h, l.Send(0), api.Frame{Kind: api.Close, Code: api.TransportParameter})
}

// What was read at a level does not count for the bound.
func TestCryptoBufferAfterReading(t *testing.T) {
	for more := range uint64(2) {
		l, h := line.New(serverConfig(), 0), newHand(clientConfig())
		hello := h.out()[api.Initial]
		read := uint64(len(hello.Data))
		l.Receive(h.says(api.Initial, hello), 0)
		l.Receive(h.says(api.Initial, crypto(read+4095+more, 1)), 0)
		if more == 0 {
			checkOpen(t, l, line.Greeting)
		} else {
			checkEnd(t, l, line.Closed, api.CryptoBuffer, false)
		}
	}
}

// What both sides permit binds the other one.
func TestLimits(t *testing.T) {
	c := serverConfig()
	c.Params.Window, c.Params.Credit = 100, 150
	for what, x := range map[string]struct {
		frames []api.Frame
		code   uint64
	}{
		"as much as is permitted":         {[]api.Frame{streamFrame(2, 99, "x", false), streamFrame(6, 49, "x", false)}, 0},
		"too much of one stream":          {[]api.Frame{streamFrame(2, 100, "x", false)}, api.FlowControl},
		"too much of two":                 {[]api.Frame{streamFrame(2, 99, "x", false), streamFrame(6, 50, "x", false)}, api.FlowControl},
		"the last stream of one way":      {[]api.Frame{streamFrame(38, 0, "x", false)}, 0},
		"one stream of one way too many":  {[]api.Frame{streamFrame(42, 0, "x", false)}, api.StreamLimit},
		"one stream of two ways too many": {[]api.Frame{streamFrame(40, 0, "x", false)}, api.StreamLimit},
	} {
		l, h := greeted(t, c, 0)
		l.Receive(h.says(api.App, x.frames...), 0)
		if code, _, _ := l.Code(); code != x.code {
			t.Fatalf("%s: the code is %x; want %x", what, code, x.code)
		}
	}

	l, h := line.New(clientConfig(), 0), newHand(c)
	h.hears(t, l.Send(0))
	out := h.out()
	l.Receive(slices.Concat(h.says(api.Initial, out[api.Initial]), h.says(api.Handshake, out[api.Handshake])), 0)
	write(t, l, 200)
	write(t, l, 200)
	var sent []int
	for _, f := range all(h.hears(t, l.Send(0)), api.Stream) {
		sent = append(sent, len(f.Data))
	}
	if !slices.Equal(sent, []int{100, 50}) {
		t.Fatalf("%d bytes are sent", sent)
	}
}

// What the handshake says may come in any pieces and in any order.
func TestPiecesOfTheHandshake(t *testing.T) {
	l, h := line.New(serverConfig(), 0), newHand(clientConfig())
	hello := h.out()[api.Initial].Data
	for at := len(hello) - 1; at >= 0; at -= 7 {
		from := max(at-6, 0)
		l.Receive(h.says(api.Initial, api.Frame{Kind: api.Crypto, Off: uint64(from), Data: hello[from : at+1]}), 0)
		checkOpen(t, l, line.Greeting)
	}
	if l := all(h.hears(t, l.Send(0)), api.Crypto); len(l) != 2 {
		t.Fatalf("%d Crypto frames", len(l))
	}
}

// If no datagram frames are permitted, one closes the connection even if it has no bytes.
func TestNoGrams(t *testing.T) {
	c := serverConfig()
	c.Params.Gram = 0
	l, h := greeted(t, c, 0)
	l.Receive(h.says(api.App, gram(0)), 0)
	checkEnd(t, l, line.Closed, api.ProtocolViolation, false)
	c.Params.Gram = 1
	l, h = greeted(t, c, 0)
	l.Receive(h.says(api.App, gram(0), gram(1)), 0)
	checkOpen(t, l, line.Up)
	l.Receive(h.says(api.App, gram(2)), 0)
	checkEnd(t, l, line.Closed, api.ProtocolViolation, false)
}

// A PathChallenge is answered by a PathResponse, each by its own.
func TestPathChallenge(t *testing.T) {
	for _, server := range []bool{true, false} {
		l, h := either(t, server)
		l.Receive(h.says(api.App, api.Frame{Kind: api.PathChallenge, Data: []byte("12345678")}, api.Frame{Kind: api.PathChallenge, Data: []byte("abcdefgh")}), 5)
		if l.Idle() {
			t.Fatal("it is idle")
		}
		sent := h.hears(t, l.Send(5))
		checkKinds(t, "the answer", sent, api.Ack, api.PathResponse, api.PathResponse)
		got := all(sent, api.PathResponse)
		if string(got[0].Data) != "12345678" || string(got[1].Data) != "abcdefgh" {
			t.Fatalf("the answers are %q and %q", got[0].Data, got[1].Data)
		}
		l.Receive(h.says(api.App, h.upTo(api.App)), 6)
		if sent := l.Send(6); len(sent) > 0 || !l.Idle() {
			t.Fatal("it is answered twice")
		}
	}
}

// What is not correctly encrypted, or not addressed to the side, has no effect, and neither has what is after it.
func TestNotOpened(t *testing.T) {
	for _, server := range []bool{true, false} {
		l, h := either(t, server)
		was := l.Opened()
		bad := func(what string, p []byte) {
			t.Helper()
			good := h.says(api.Initial, api.Frame{Kind: api.Ping})
			l.Receive(append(bytes.Clone(p), good...), 5)
			if sent := l.Send(5); l.Opened() != was || len(sent) > 0 {
				t.Fatalf("%s has an effect", what)
			}
			checkOpen(t, l, line.Up)
		}
		closing := api.Frame{Kind: api.Close, Code: 5}
		for _, level := range []int{api.Initial, api.Handshake, api.App} {
			good := h.says(level, closing)
			for i := range good {
				p := bytes.Clone(good)
				p[i] ^= 1 << (i % 8)
				bad("a changed packet", p)
			}
			for i := range len(good) - 1 {
				bad("a cut packet", good[:i+1:i+1])
			}
			other := *h
			other.other = []byte("somebody")
			bad("a packet to somebody else", other.says(level, closing))
			other.other = h.own
			bad("a packet to its sender", other.says(level, closing))
			other.other = h.other[:7]
			if level != api.App {
				bad("a packet to a part of the name", other.says(level, closing))
			}
			other = *h
			other.seal[level] = parcel.Draw([32]byte{1})
			bad("a packet with other keys", other.says(level, closing))
			other.seal[level] = h.open[level]
			bad("a packet with the keys of the other direction", other.says(level, closing))
		}
		l.Receive(nil, 5)
		l.Receive([]byte{0}, 5)
		checkOpen(t, l, line.Up)
	}
}

// Packets up to the first that is not opened have their effect.
func TestPacketsBeforeTheFirstBadOne(t *testing.T) {
	l, h := greeted(t, serverConfig(), 0)
	was := l.Opened()
	one, two, three := h.says(api.Initial, api.Frame{Kind: api.Ping}), h.says(api.Handshake, api.Frame{Kind: api.Ping}), h.says(api.App, gram(1))
	two[len(two)-1] ^= 1
	l.Receive(slices.Concat(one, two, three), 5)
	if n := l.Opened(); n != was+1 || len(l.Grams()) > 0 {
		t.Fatalf("Opened = %d; want %d", n, was+1)
	}
	sent := h.hears(t, l.Send(5))
	checkKinds(t, "the answer", sent, api.Ack)
	if sent[0].head.Level != api.Initial {
		t.Fatal("the wrong level")
	}
	two[len(two)-1] ^= 1
	l.Receive(slices.Concat(two, three), 5)
	checkKinds(t, "the answer", h.hears(t, l.Send(5)), api.Ack, api.Ack)
	if n := l.Opened(); n != was+3 || len(l.Grams()) != 1 {
		t.Fatalf("Opened = %d; want %d", n, was+3)
	}
}

// A packet whose keys are missing can't be opened.
func TestMissingKeys(t *testing.T) {
	// Handshake and App packets of the server come before its Initial.
	l, h := line.New(clientConfig(), 0), newHand(serverConfig())
	h.hears(t, l.Send(0))
	out := h.out()
	h.shake(t, api.Initial, nil)
	p := h.says(api.Handshake, out[api.Handshake])
	l.Receive(append(bytes.Clone(p), h.says(api.Initial, out[api.Initial])...), 0)
	l.Receive(h.says(api.App, gram(1)), 0)
	if l.Opened() != 0 || len(l.Send(0)) > 0 {
		t.Fatal("a packet was opened")
	}
	checkOpen(t, l, line.Greeting)
	h.other = firstName[:]
	l.Receive(h.says(api.Initial, api.Frame{Kind: api.Ping}), 0)
	if l.Opened() != 0 {
		t.Fatal("a packet to somebody else was opened")
	}

	// A server has none at first, but for an Initial.
	b, c := line.New(serverConfig(), 0), newHand(clientConfig())
	c.other = serverName[:]
	b.Receive(c.says(api.Handshake, api.Frame{Kind: api.Ping}), 0)
	b.Receive(c.says(api.App, gram(1)), 0)
	b.Receive(p, 0)
	c.other, c.seal[api.Handshake] = firstName[:], c.seal[api.Initial]
	b.Receive(c.says(api.Handshake, api.Frame{Kind: api.Ping}), 0)
	if b.Opened() != 0 || len(b.Send(0)) > 0 {
		t.Fatal("a packet was opened")
	}
	checkOpen(t, b, line.Greeting)
}

// What was received before has no effect, but is opened.
func TestDuplicates(t *testing.T) {
	l, h := greeted(t, serverConfig(), 0)
	p := slices.Concat(h.says(api.Initial, api.Frame{Kind: api.Ping}), h.says(api.App, gram(1), api.Frame{Kind: api.PathChallenge, Data: make([]byte, 8)}))
	was := l.Opened()
	l.Receive(p, 5)
	sent := h.hears(t, l.Send(5))
	checkKinds(t, "the answer", sent, api.Ack, api.Ack, api.PathResponse)
	l.Receive(h.says(api.App, h.upTo(api.App)), 5)
	l.Grams()
	for i := range 3 {
		l.Receive(p, 6)
		if n := l.Opened(); n != was+5+2*i {
			t.Fatalf("Opened = %d; want %d", n, was+5+2*i)
		}
		if len(l.Grams()) > 0 || len(l.Send(6)) > 0 || !l.Idle() {
			t.Fatal("a packet has an effect again")
		}
	}
	// Other bytes with the same number have none, either.
	l.Receive(h.plain(api.App, 0, joinFrames(t, api.Frame{Kind: api.Close, Code: 5})), 6)
	checkOpen(t, l, line.Up)
	// Numbers that were left out may still come.
	l.Receive(h.plain(api.App, 50, joinFrames(t, gram(2))), 6)
	l.Receive(h.plain(api.App, 40, joinFrames(t, gram(3))), 6)
	l.Receive(h.plain(api.App, 40, joinFrames(t, gram(4))), 6)
	if g := l.Grams(); len(g) != 2 || len(g[0]) != 2 || len(g[1]) != 3 {
		t.Fatalf("Grams = %x", g)
	}
}

// An App packet has no effect while the state is Greeting: it can come again when it is Up.
func TestAppWhileGreeting(t *testing.T) {
	l, h := line.New(serverConfig(), 0), newHand(clientConfig())
	l.Receive(h.says(api.Initial, h.out()[api.Initial]), 0)
	h.hears(t, l.Send(0))
	h.other = serverName[:]
	p := h.says(api.App, streamFrame(stream0, 0, "abc", true), gram(1))
	wrong := h.says(api.App, api.Frame{Kind: api.HandshakeDone})
	l.Receive(p, 1)
	l.Receive(wrong, 1)
	if n := l.Opened(); n != 3 {
		t.Fatalf("Opened = %d", n)
	}
	if len(l.Came()) > 0 || len(l.Grams()) > 0 || len(l.Send(1)) > 0 {
		t.Fatal("it has an effect")
	}
	checkOpen(t, l, line.Greeting)
	// In one datagram with the client's Finished, it comes after it.
	l.Receive(append(h.says(api.Handshake, h.out()[api.Handshake]), p...), 2)
	checkOpen(t, l, line.Up)
	if c := l.Came(); !slices.Equal(c, []uint64{stream0}) || len(l.Grams()) != 1 {
		t.Fatalf("Came = %d", c)
	}
	l.Receive(wrong, 2)
	checkEnd(t, l, line.Closed, api.ProtocolViolation, false)
}

// The client's first packets are addressed to the first eight bytes of its Random, later ones to the server's name. The server may be addressed with both.
func TestNames(t *testing.T) {
	l, h := line.New(clientConfig(), 0), newHand(serverConfig())
	sent := h.hears(t, l.Send(0))
	if x := sent[0].head; !bytes.Equal(x.To, firstName[:]) || !bytes.Equal(x.From, clientName[:]) {
		t.Fatalf("the first packet is from %x to %x", x.From, x.To)
	}
	h.hears(t, l.Send(32))
	out := h.out()
	l.Receive(h.says(api.Initial, out[api.Initial]), 40)
	x := h.hears(t, l.Send(40))[0].head
	if !bytes.Equal(x.To, serverName[:]) || !bytes.Equal(x.From, clientName[:]) {
		t.Fatalf("a later packet is from %x to %x", x.From, x.To)
	}
	// Only the first packet tells the name.
	h.own = []byte("renamed!")
	l.Receive(h.says(api.Handshake, out[api.Handshake]), 41)
	open(t, l, true)
	for _, x := range h.hears(t, l.Send(41)) {
		if !bytes.Equal(x.head.To, serverName[:]) {
			t.Fatalf("a packet of level %d is to %x", x.head.Level, x.head.To)
		}
	}

	b, c := line.New(serverConfig(), 0), newHand(clientConfig())
	b.Receive(c.says(api.Initial, c.out()[api.Initial]), 0)
	for _, x := range c.hears(t, b.Send(0)) {
		if !bytes.Equal(x.head.To, clientName[:]) || !bytes.Equal(x.head.From, serverName[:]) {
			t.Fatalf("a packet of level %d is from %x to %x", x.head.Level, x.head.From, x.head.To)
		}
	}
	final := c.out()[api.Handshake]
	for i, to := range [][8]byte{firstName, serverName, firstName} {
		c.other = to[:]
		b.Receive(c.says(i, []api.Frame{{Kind: api.Ping}, final, gram(1)}[i]), 1)
		if n := b.Opened(); n != i+2 {
			t.Fatalf("Opened = %d after a packet of level %d", n, i)
		}
	}
	if len(b.Grams()) != 1 {
		t.Fatal("the App packet had no effect")
	}
	for _, x := range c.hears(t, b.Send(1)) {
		if !bytes.Equal(x.head.To, clientName[:]) {
			t.Fatalf("a packet of level %d is to %x", x.head.Level, x.head.To)
		}
	}
}

// Garbage does not tell a server any name: only a packet that is opened does.
func TestGarbageTellsNoName(t *testing.T) {
	l, h := line.New(serverConfig(), 0), newHand(clientConfig())
	hello := h.out()[api.Initial]
	p := h.says(api.Initial, hello)
	for i := range p {
		q := bytes.Clone(p)
		q[i] ^= 0x10
		l.Receive(q, 0)
	}
	if l.Opened() != 0 || len(l.Send(0)) > 0 {
		t.Fatal("garbage was opened")
	}
	l.Receive(p, 0)
	if n := l.Opened(); n != 1 {
		t.Fatalf("Opened = %d", n)
	}
	h.hears(t, l.Send(0))
	// Once a name is known, no other one counts.
	other := newHand(clientConfig())
	other.other = []byte("another1")
	client, server := parcel.First(other.other)
	other.draw(api.Initial, client, server)
	other.next[api.Initial] = 9
	l.Receive(other.says(api.Initial, api.Frame{Kind: api.Close}), 0)
	if n := l.Opened(); n != 1 {
		t.Fatalf("Opened = %d", n)
	}
}

// A server may be addressed with its own name from the first, and by a name of any length.
func TestFirstNames(t *testing.T) {
	for _, to := range [][]byte{serverName[:], nil, []byte("x"), pattern(20)} {
		l, h := line.New(serverConfig(), 0), newHand(clientConfig())
		h.other = to
		client, server := parcel.First(to)
		h.draw(api.Initial, client, server)
		l.Receive(h.says(api.Initial, h.out()[api.Initial]), 0)
		h.hears(t, l.Send(0))
		l.Receive(h.says(api.Handshake, h.out()[api.Handshake]), 0)
		checkOpen(t, l, line.Up)
	}
}

// A side without a name of eight bytes can't be addressed as it wants, but nothing breaks.
func TestOddNames(t *testing.T) {
	for _, from := range [][]byte{nil, []byte("x"), pattern(20)} {
		l, h := line.New(serverConfig(), 0), newHand(clientConfig())
		h.own = from
		l.Receive(h.says(api.Initial, h.out()[api.Initial]), 0)
		h.hears(t, l.Send(0))
		l.Receive(h.says(api.Handshake, h.out()[api.Handshake]), 0)
		checkOpen(t, l, line.Up)
		write(t, l, 10)
		want := make([]byte, 8)
		copy(want, from)
		if x := h.hears(t, l.Send(0)); !bytes.Equal(x[len(x)-1].head.To, want) {
			t.Fatalf("a packet is to %x; want %x", x[len(x)-1].head.To, want)
		}

		l, h = line.New(clientConfig(), 0), newHand(serverConfig())
		h.own = from
		h.hears(t, l.Send(0))
		l.Receive(h.says(api.Initial, h.out()[api.Initial]), 0)
		if x := h.hears(t, l.Send(0)); !bytes.Equal(x[0].head.To, want) {
			t.Fatalf("a packet is to %x; want %x", x[0].head.To, want)
		}
	}
}

// A side that permits nothing has parameters without bytes, and they are received as well.
func TestEmptyParameters(t *testing.T) {
	c := clientConfig()
	c.Params = greet.Params{}
	a, b := joined(t, c, serverConfig(), 0)
	if _, e := b.Open(true); e != api.ErrCredit {
		t.Fatalf("Open = %d", e)
	}
	if _, e := a.Open(true); e != api.OK {
		t.Fatalf("Open = %d", e)
	}
}
