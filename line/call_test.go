package line_test

import (
	"bytes"
	"slices"
	"testing"

	"colonnade/api"
	"colonnade/line"
	"colonnade/pipe"
)

// Streams are those of layer 12.
func TestStreams(t *testing.T) {
	a, b := pair(t)
	two, one := open(t, a, false), open(t, a, true)
	if two != stream0 || one != streamU {
		t.Fatalf("Open = %d, %d", two, one)
	}
	checkErrno(t, "Write", a.Write(two, []byte("question"), false), api.OK)
	checkErrno(t, "Write", a.Write(one, []byte("statement"), true), api.OK)
	checkErrno(t, "Write after the end", a.Write(one, nil, false), api.ErrOver)
	checkErrno(t, "Write of too much", a.Write(two, make([]byte, 16384), false), api.ErrFull)
	rest(t, a, b, 1)
	if l := b.Came(); !slices.Equal(l, []uint64{stream0, streamU}) || len(b.Came()) > 0 || len(a.Came()) > 0 {
		t.Fatalf("Came = %d", l)
	}
	checkTold(t, b, 0, windowOf(b), 17)
	p, done, code, e := b.Read(two, 3)
	if string(p) != "que" || done || code != 0 || e != api.OK {
		t.Fatalf("Read = %q, %v, %d, %d", p, done, code, e)
	}
	checkTold(t, b, 0, windowOf(b), 14)
	checkErrno(t, "Write", b.Write(two, []byte("answer"), true), api.OK)
	checkErrno(t, "Write", b.Write(one, []byte("x"), true), api.ErrState)
	checkErrno(t, "Write", b.Write(99, []byte("x"), true), api.ErrNone)
	rest(t, a, b, 2)
	if p, done, _, e := a.Read(two, 99); string(p) != "answer" || !done || e != api.OK {
		t.Fatalf("Read = %q, %v, %d", p, done, e)
	}
	if _, _, _, e := a.Read(one, 99); e != api.ErrState {
		t.Fatalf("Read = %d", e)
	}
	if _, _, _, e := a.Read(99, 99); e != api.ErrNone {
		t.Fatalf("Read = %d", e)
	}

	checkErrno(t, "Reset", a.Reset(two, 77), api.OK)
	checkErrno(t, "Reset", a.Reset(two, api.MaxNum+1), api.ErrArg)
	checkErrno(t, "Reset", a.Reset(99, 7), api.ErrNone)
	rest(t, a, b, 3)
	if p, done, code, e := b.Read(two, 9); len(p) > 0 || done || code != 77 || e != api.ErrClosed {
		t.Fatalf("Read = %q, %v, %d, %d", p, done, code, e)
	}
	other := open(t, b, true)
	checkErrno(t, "Write", b.Write(other, []byte("x"), false), api.OK)
	rest(t, a, b, 4)
	checkErrno(t, "Stop", a.Stop(other, 78), api.OK)
	checkErrno(t, "Stop", a.Stop(other, 78), api.ErrOver)
	checkErrno(t, "Stop", a.Stop(one, 78), api.ErrState)
	rest(t, a, b, 5)
	checkErrno(t, "Write", b.Write(other, []byte("x"), false), api.ErrOver)
	if _, _, code, e := a.Read(other, 9); code != 78 || e != api.ErrClosed {
		t.Fatalf("Read = %d, %d", code, e)
	}
	checkErrno(t, "Rank", a.Rank(two, pipe.Rank{1, 2, 3}), api.OK)
	checkErrno(t, "Rank", a.Rank(99, pipe.Rank{}), api.ErrNone)
}

func windowOf(l *line.Line) int {
	_, window, _ := l.Told()
	return window
}

// Streams may be opened once the other side's parameters were received, as many as those permit.
func TestOpen(t *testing.T) {
	client, server := clientConfig(), serverConfig()
	client.Params.Bidi, client.Params.Uni = 1, 2
	server.Params.Bidi, server.Params.Uni = 3, 4
	a, b := line.New(client, 0), line.New(server, 0)
	count := func(l *line.Line, uni bool) int {
		for n := range 99 {
			_, e := l.Open(uni)
			if e == api.ErrCredit {
				return n
			}
			checkErrno(t, "Open", e, api.OK)
		}
		return 99
	}
	if count(a, false)+count(a, true)+count(b, false)+count(b, true) > 0 {
		t.Fatal("a stream is opened before anything was received")
	}
	deliver(b, a.Send(0), 0)
	checkState(t, b, line.Greeting)
	if n, m := count(b, false), count(b, true); n != 1 || m != 2 {
		t.Fatalf("the server opens %d and %d streams", n, m)
	}
	// What is written while greeting arrives later.
	checkErrno(t, "Write", b.Write(serverU, []byte("early"), true), api.OK)
	if count(a, false) > 0 {
		t.Fatal("a stream is opened before anything was received")
	}
	deliver(a, b.Send(0), 0)
	if n, m := count(a, false), count(a, true); n != 3 || m != 4 {
		t.Fatalf("the client opens %d and %d streams", n, m)
	}
	rest(t, a, b, 0)
	if p, done, _, e := a.Read(serverU, 9); string(p) != "early" || !done || e != api.OK {
		t.Fatalf("Read = %q, %v, %d", p, done, e)
	}
}

// While greeting, nothing is said at App, as it would have no effect.
func TestNoAppWhileGreeting(t *testing.T) {
	l, h := line.New(serverConfig(), 0), newHand(clientConfig())
	l.Receive(h.says(api.Initial, h.out()[api.Initial]), 0)
	write(t, l, 10)
	checkErrno(t, "Gram", l.Gram([]byte("gram")), api.OK)
	checkKinds(t, "while greeting", h.hears(t, l.Send(0)), api.Ack, api.Crypto, api.Crypto)
	l.Receive(h.says(api.Handshake, h.out()[api.Handshake]), 0)
	checkKinds(t, "when it is Up", h.hears(t, l.Send(0)), api.Ack, api.Stream, api.Datagram)
}

// A client that received the server's parameters, but not yet its Finished, may open streams.
func TestOpenWhileGreeting(t *testing.T) {
	l, h := line.New(clientConfig(), 0), newHand(serverConfig())
	h.hears(t, l.Send(0))
	out := h.out()
	l.Receive(h.says(api.Initial, out[api.Initial]), 0)
	if _, e := l.Open(true); e != api.ErrCredit {
		t.Fatalf("Open = %d", e)
	}
	// Finished is the last 36 bytes.
	f := out[api.Handshake]
	end := len(f.Data) - 36
	l.Receive(h.says(api.Handshake, api.Frame{Kind: api.Crypto, Data: f.Data[:end]}), 0)
	checkOpen(t, l, line.Greeting)
	id := write(t, l, 10)
	checkErrno(t, "Gram", l.Gram([]byte("gram")), api.OK)
	checkKinds(t, "while greeting", h.hears(t, l.Send(0)), api.Ack, api.Ack)
	l.Receive(h.says(api.Handshake, api.Frame{Kind: api.Crypto, Off: uint64(end), Data: f.Data[end:]}), 0)
	checkOpen(t, l, line.Up)
	sent := h.hears(t, l.Send(0))
	checkKinds(t, "when it is Up", sent, api.Ack, api.Crypto, api.Stream, api.Datagram)
	if f := all(sent, api.Stream)[0]; f.ID != id {
		t.Fatalf("stream %d", f.ID)
	}
}

// ended returns lines that are Closed and Gone, for each side, with a stream that came with bytes.
func ended(t *testing.T) []*line.Line {
	t.Helper()
	var l []*line.Line
	for i := range 2 {
		a, b := pair(t)
		for _, x := range []*line.Line{a, b} {
			id := open(t, x, true)
			checkErrno(t, "Write", x.Write(id, []byte("abc"), true), api.OK)
			checkErrno(t, "Gram", x.Gram([]byte("gram")), api.OK)
		}
		rest(t, a, b, 1)
		if i == 1 {
			a, b = b, a
		}
		checkErrno(t, "Close", a.Close(7, true), api.OK)
		rest(t, a, b, 2)
		checkEnd(t, a, line.Closed, 7, true)
		checkEnd(t, b, line.Gone, 7, true)
		l = append(l, a, b)
	}
	return l
}

// When the connection has ended, everything but Read, Came and Grams returns ErrClosed, before any other error.
func TestErrClosed(t *testing.T) {
	long := make([]byte, 1001)
	for _, l := range ended(t) {
		for _, uni := range []bool{true, false} {
			if id, e := l.Open(uni); e != api.ErrClosed || id != 0 {
				t.Fatalf("Open = %d, %d", id, e)
			}
		}
		for _, id := range []uint64{0, streamU, serverU, 99, api.MaxNum + 1} {
			checkErrno(t, "Write", l.Write(id, make([]byte, 20000), true), api.ErrClosed)
			checkErrno(t, "Reset", l.Reset(id, api.MaxNum+1), api.ErrClosed)
			checkErrno(t, "Stop", l.Stop(id, api.MaxNum+1), api.ErrClosed)
			checkErrno(t, "Rank", l.Rank(id, pipe.Rank{}), api.ErrClosed)
		}
		for _, p := range [][]byte{nil, []byte("x"), long} {
			checkErrno(t, "Gram", l.Gram(p), api.ErrClosed)
			checkErrno(t, "Raw", l.Raw(p), api.ErrClosed)
		}
		checkErrno(t, "Close", l.Close(0, false), api.ErrClosed)
		checkErrno(t, "Close", l.Close(api.MaxNum+1, false), api.ErrArg)
		came := l.Came()
		if len(came) != 1 {
			t.Fatalf("Came = %d", came)
		}
		checkTold(t, l, 0, windowOf(l), 3)
		if p, done, _, e := l.Read(came[0], 9); string(p) != "abc" || !done || e != api.OK {
			t.Fatalf("Read = %q, %v, %d", p, done, e)
		}
		if g := l.Grams(); len(g) != 1 || string(g[0]) != "gram" {
			t.Fatalf("Grams = %q", g)
		}
	}
}

// The errors of Gram come in their order.
func TestErrorsOfGram(t *testing.T) {
	for _, permitted := range []uint64{0, 1, 100, 1000, 1001, 5000, api.MaxNum} {
		client, server := clientConfig(), serverConfig()
		server.Params.Gram = permitted
		a := line.New(client, 0)
		checkErrno(t, "Gram while greeting", a.Gram([]byte("x")), api.ErrState)
		checkErrno(t, "Gram of 1000 bytes while greeting", a.Gram(make([]byte, 1000)), api.ErrState)
		checkErrno(t, "Gram of 1001 bytes while greeting", a.Gram(make([]byte, 1001)), api.ErrLong)
		a, b := joined(t, client, server, 0)
		checkErrno(t, "Gram of 1001 bytes", a.Gram(make([]byte, 1001)), api.ErrLong)
		if permitted == 0 {
			checkErrno(t, "Gram of nothing", a.Gram(nil), api.ErrState)
			checkErrno(t, "Gram of 1000 bytes", a.Gram(make([]byte, 1000)), api.ErrState)
			continue
		}
		most := int(min(permitted, 1000))
		for range 16 {
			checkErrno(t, "Gram", a.Gram(make([]byte, most)), api.OK)
		}
		if a.Idle() {
			t.Fatal("it is idle with something to be sent")
		}
		checkErrno(t, "Gram of one byte more", a.Gram(make([]byte, most+1)), api.ErrLong)
		checkErrno(t, "Gram when 16 are queued", a.Gram(nil), api.ErrFull)
		rest(t, a, b, 0)
		if g := b.Grams(); len(g) != 16 || len(g[15]) != most {
			t.Fatalf("%d datagram frames", len(g))
		}
		checkErrno(t, "Gram", a.Gram(nil), api.OK)
		rest(t, a, b, 0)
		if g := b.Grams(); len(g) != 1 || len(g[0]) != 0 {
			t.Fatalf("Grams = %x", g)
		}
		// The other direction is permitted by the other side.
		checkErrno(t, "Gram", b.Gram(make([]byte, 1000)), api.OK)
	}
}

// Grams returns the received ones in order, each once; if 16 are waiting, further ones are dropped.
func TestGrams(t *testing.T) {
	l, h := greeted(t, serverConfig(), 0)
	if g := l.Grams(); len(g) > 0 {
		t.Fatalf("Grams = %x", g)
	}
	for i := range 3 {
		l.Receive(h.says(api.App, gram(2*i), gram(2*i+1)), 1)
	}
	check := func(n int) {
		t.Helper()
		g := l.Grams()
		if len(g) != n {
			t.Fatalf("%d datagram frames; want %d", len(g), n)
		}
		for i, p := range g {
			if !bytes.Equal(p, pattern(i)) {
				t.Fatalf("datagram frame %d is %x", i, p)
			}
		}
	}
	check(6)
	check(0)
	for i := range 20 {
		l.Receive(h.says(api.App, gram(i)), 1)
	}
	check(16)
	check(0)
	checkOpen(t, l, line.Up)
}

// The errors of Raw come in their order.
func TestErrorsOfRaw(t *testing.T) {
	long := make([]byte, 1001)
	for _, c := range []line.Config{clientConfig(), serverConfig()} {
		l := line.New(c, 0)
		checkErrno(t, "Raw of nothing", l.Raw(nil), api.ErrShort)
		checkErrno(t, "Raw of too much", l.Raw(long), api.ErrLong)
		checkErrno(t, "Raw while greeting", l.Raw(long[:1000]), api.ErrState)
	}
	a, b := pair(t)
	checkErrno(t, "Raw of nothing", a.Raw([]byte{}), api.ErrShort)
	checkErrno(t, "Raw of too much", a.Raw(long), api.ErrLong)
	checkErrno(t, "Raw", a.Raw(long[:1000]), api.OK)
	if a.Idle() {
		t.Fatal("it is idle with something to be sent")
	}
	checkErrno(t, "Raw of nothing when one is queued", a.Raw(nil), api.ErrShort)
	checkErrno(t, "Raw of too much when one is queued", a.Raw(long), api.ErrLong)
	checkErrno(t, "Raw when one is queued", a.Raw(long[:1]), api.ErrFull)
	deliver(b, a.Send(1), 1)
	checkErrno(t, "Raw when it was sent", a.Raw(long[:1]), api.OK)
	rest(t, a, b, 1)
	checkOpen(t, a, line.Up)
	checkOpen(t, b, line.Up)
}

// A packet carries exactly what Raw was given, with zero bytes up to three.
func TestRaw(t *testing.T) {
	ping := []byte{1}
	for _, x := range []struct {
		p      []byte
		frames []api.Frame
		flies  bool
	}{
		{ping, []api.Frame{{Kind: api.Ping}, {Kind: api.Padding, N: 2}}, true},
		{[]byte{1, 1}, []api.Frame{{Kind: api.Ping}, {Kind: api.Ping}, {Kind: api.Padding, N: 1}}, true},
		{[]byte{1, 1, 1}, []api.Frame{{Kind: api.Ping}, {Kind: api.Ping}, {Kind: api.Ping}}, true},
		{[]byte{0}, []api.Frame{{Kind: api.Padding, N: 3}}, false},
		{[]byte{0x1d}, []api.Frame{{Kind: api.CloseApp}}, false},
		{make([]byte, 1000), []api.Frame{{Kind: api.Padding, N: 1000}}, false},
		{[]byte{0x1c, 5, 0, 0}, []api.Frame{{Kind: api.Close, Code: 5}}, false},
		{[]byte{0, 0x1e, 0}, []api.Frame{{Kind: api.Padding, N: 1}, {Kind: api.HandshakeDone}, {Kind: api.Padding, N: 1}}, true},
	} {
		l, h := greeted(t, serverConfig(), trip)
		write(t, l, 20)
		l.Receive(h.says(api.App, api.Frame{Kind: api.Ping}), 99)
		checkErrno(t, "Raw", l.Raw(x.p), api.OK)
		sent := l.Send(100)
		if len(sent) != 2 {
			t.Fatalf("%d datagrams", len(sent))
		}
		packets := h.hears(t, sent)
		i := slices.IndexFunc(packets, func(p packet) bool { return len(p.frames) == len(x.frames) && same(p.frames[0], x.frames[0]) })
		if i < 0 {
			t.Fatalf("no packet carries %x", x.p)
		}
		for k, f := range packets[i].frames {
			checkFrame(t, "Raw", f, x.frames[k])
		}
		_, window, _ := l.Told()
		flies, again := packets[1-i].size, 1
		if x.flies {
			flies += packets[i].size
			again = 2
		}
		checkTold(t, l, flies, window, 0)
		// If it is lost, it is sent again.
		if n := len(h.hears(t, l.Send(200))); n != again {
			t.Fatalf("%d packets are sent again; want %d", n, again)
		}
		l.Receive(h.says(api.App, h.upTo(api.App)), 210)
		if !l.Idle() {
			t.Fatal("it is not idle")
		}
	}
}

// What is no frames reaches the other side, too, even if the first packet does not.
func TestRawGarbage(t *testing.T) {
	for _, p := range [][]byte{{0x1f}, {0x40, 0x01}, {1, 1, 0x0a}, bytes.Repeat([]byte{1}, 201)} {
		a, b := pair(t)
		checkErrno(t, "Raw", a.Raw(p), api.OK)
		if len(a.Send(1)) != 1 {
			t.Fatal("it is not sent")
		}
		if a.Idle() {
			t.Fatal("it is idle with something in flight")
		}
		checkErrno(t, "Raw when it was sent", a.Raw([]byte{1}), api.OK)
		a.Send(1)
		// Both are sent again, one after the other.
		sent := a.Send(100)
		if len(sent) != 2 {
			t.Fatalf("%d datagrams", len(sent))
		}
		deliver(b, sent, 100)
		checkEnd(t, b, line.Closed, api.FrameEncoding, false)
		deliver(a, b.Send(100), 100)
		checkEnd(t, a, line.Gone, api.FrameEncoding, false)
	}
}

// Idle, Told and Opened tell what there is.
func TestTelling(t *testing.T) {
	a, b := line.New(clientConfig(), 0), line.New(serverConfig(), 0)
	checkTold(t, a, 0, 12000, 0)
	if a.Idle() || b.Idle() || a.Opened()+b.Opened() != 0 {
		t.Fatal("a new side is idle, or has opened something")
	}
	sent := a.Send(0)
	checkTold(t, a, len(sent[0]), 12000, 0)
	deliver(b, sent, 0)
	deliver(b, sent, 0)
	if n := b.Opened(); n != 2 {
		t.Fatalf("Opened = %d", n)
	}
	sent = b.Send(0)
	deliver(a, sent, 0)
	if n := a.Opened(); n != 2 {
		t.Fatalf("Opened = %d", n)
	}
	checkState(t, a, line.Up)
	if a.Idle() {
		t.Fatal("it is idle with something to be sent")
	}
	rest(t, a, b, 0)
	// All that was sent and acknowledged has made the window grow.
	if f, w, _ := b.Told(); f != 0 || w <= 12000 {
		t.Fatalf("Told = %d, %d", f, w)
	}
	if !a.Idle() || !b.Idle() {
		t.Fatal("a side is not idle")
	}
	// What the other side does not permit is nothing to be sent.
	id := write(t, a, 10)
	if a.Idle() {
		t.Fatal("it is idle with something to be sent")
	}
	rest(t, a, b, 0)
	checkTold(t, b, 0, windowOf(b), 10)
	b.Read(id, 4)
	checkTold(t, b, 0, windowOf(b), 6)
}

// A stream that may not go on for lack of credit leaves both idle.
func TestIdleWithoutCredit(t *testing.T) {
	server := serverConfig()
	server.Params.Window = 100
	a, b := joined(t, clientConfig(), server, 0)
	id := write(t, a, 150)
	rest(t, a, b, 0)
	if !a.Idle() || !b.Idle() {
		t.Fatal("a side is not idle")
	}
	if p, _, _, _ := b.Read(id, 999); len(p) != 100 {
		t.Fatalf("%d bytes", len(p))
	}
	if b.Idle() {
		t.Fatal("it is idle with credit to be told")
	}
	rest(t, a, b, 0)
	if p, _, _, _ := b.Read(id, 999); len(p) != 50 {
		t.Fatalf("%d bytes", len(p))
	}
}
