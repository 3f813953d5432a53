package line_test

import (
	"bytes"
	"slices"
	"testing"

	"colonnade/api"
	"colonnade/line"
)

// Close tells the other side the code, with a Close or a CloseApp.
func TestClose(t *testing.T) {
	for _, server := range []bool{true, false} {
		for _, x := range []struct {
			code uint64
			app  bool
		}{{0, false}, {0, true}, {7, false}, {7, true}, {api.MaxNum, false}, {api.MaxNum, true}} {
			l, h := either(t, server)
			write(t, l, 100)
			checkErrno(t, "Close", l.Close(x.code, x.app), api.OK)
			checkEnd(t, l, line.Closed, x.code, x.app)
			checkNotDue(t, l)
			if l.Idle() {
				t.Fatal("it is idle")
			}
			kind := uint64(api.Close)
			if x.app {
				kind = api.CloseApp
			}
			sent := l.Send(1)
			packets := h.hears(t, [][]byte{bytes.Clone(sent[0])})
			if len(packets) != 1 || packets[0].head.Level != api.App {
				t.Fatalf("%d packets", len(packets))
			}
			h.came[api.App] = 0
			checkFarewell(t, h, sent, api.Frame{Kind: kind, Code: x.code})
			checkErrno(t, "Close", l.Close(1, false), api.ErrClosed)
			checkEnd(t, l, line.Closed, x.code, x.app)

			a, b := pair(t)
			if server {
				a, b = b, a
			}
			checkErrno(t, "Close", a.Close(x.code, x.app), api.OK)
			deliver(b, a.Send(1), 1)
			checkEnd(t, b, line.Gone, x.code, x.app)
		}
	}
}

func TestErrorsOfClose(t *testing.T) {
	a, _ := pair(t)
	for _, l := range []*line.Line{a, line.New(clientConfig(), 0), line.New(serverConfig(), 0)} {
		was := l.State()
		for _, code := range []uint64{api.MaxNum + 1, 1<<64 - 1} {
			checkErrno(t, "Close", l.Close(code, true), api.ErrArg)
			checkErrno(t, "Close", l.Close(code, false), api.ErrArg)
		}
		checkOpen(t, l, was)
	}
}

// A side that has closed sends its code once, and once more for whatever it receives, and nothing else.
func TestAnswersOfClosed(t *testing.T) {
	l, h := greeted(t, serverConfig(), trip)
	write(t, l, 5000)
	checkErrno(t, "Gram", l.Gram([]byte("gram")), api.OK)
	checkErrno(t, "Raw", l.Raw([]byte{1}), api.OK)
	h.hears(t, l.Send(100))
	late := h.says(api.App, streamFrame(streamU, 0, "abc", true), api.Frame{Kind: api.PathChallenge, Data: make([]byte, 8)}, gram(1))
	checkErrno(t, "Close", l.Close(9, true), api.OK)
	want := api.Frame{Kind: api.CloseApp, Code: 9}
	checkFarewell(t, h, l.Send(101), want)
	for now := range uint64(500) {
		if len(l.Send(101+now)) > 0 {
			t.Fatal("something is sent again")
		}
	}
	for _, p := range [][]byte{late, late, h.says(api.Initial, api.Frame{Kind: api.Ping}), h.says(api.App, api.Frame{Kind: api.HandshakeDone}), h.says(api.App, h.upTo(api.App)), []byte("garbage"), nil} {
		l.Receive(p, 700)
		l.Receive(p, 700)
		checkFarewell(t, h, l.Send(700), want)
		if len(l.Send(700)) > 0 {
			t.Fatal("it is told twice")
		}
		checkEnd(t, l, line.Closed, 9, true)
		checkNotDue(t, l)
	}
	if len(l.Came()) > 0 || len(l.Grams()) > 0 {
		t.Fatal("something was received")
	}
}

// If both sides close, both keep their codes, and do not answer each other for ever.
func TestBothClose(t *testing.T) {
	for _, app := range []bool{true, false} {
		a, b := pair(t)
		checkErrno(t, "Close", a.Close(1, app), api.OK)
		checkErrno(t, "Close", b.Close(2, !app), api.OK)
		rest(t, a, b, 1)
		checkEnd(t, a, line.Closed, 1, app)
		checkEnd(t, b, line.Closed, 2, !app)

		a, b = line.New(clientConfig(), 0), line.New(serverConfig(), 0)
		deliver(b, a.Send(0), 0)
		checkErrno(t, "Close", a.Close(1, app), api.OK)
		checkErrno(t, "Close", b.Close(2, !app), api.OK)
		rest(t, a, b, 1)
		checkEnd(t, a, line.Closed, 1, app)
		checkEnd(t, b, line.Closed, 2, !app)
	}
}

// While greeting, the code is told in a packet that the other side can open.
func TestCloseWhileGreeting(t *testing.T) {
	for _, app := range []bool{true, false} {
		// A client that has said nothing yet.
		a, b := line.New(clientConfig(), 0), line.New(serverConfig(), 0)
		checkErrno(t, "Close", a.Close(5, app), api.OK)
		checkEnd(t, a, line.Closed, 5, app)
		rest(t, a, b, 0)
		checkEnd(t, b, line.Gone, 5, false)

		// A server that has heard nothing yet does not know whom to tell.
		a, b = line.New(clientConfig(), 0), line.New(serverConfig(), 0)
		checkErrno(t, "Close", b.Close(5, app), api.OK)
		if len(b.Send(0)) > 0 {
			t.Fatal("something is sent")
		}
		deliver(b, a.Send(0), 1)
		deliver(a, b.Send(1), 1)
		checkEnd(t, a, line.Gone, 5, false)
		checkEnd(t, b, line.Closed, 5, app)

		// A server whose client is already Up.
		a, b = line.New(clientConfig(), 0), line.New(serverConfig(), 0)
		round(a, b, 0)
		checkState(t, a, line.Up)
		checkState(t, b, line.Greeting)
		checkErrno(t, "Close", b.Close(5, app), api.OK)
		deliver(a, b.Send(1), 1)
		checkEnd(t, a, line.Gone, 5, false)

		// A server that is Up needs no acknowledgement of what it said before.
		b, h := line.New(serverConfig(), 0), newHand(clientConfig())
		b.Receive(h.says(api.Initial, h.out()[api.Initial]), 0)
		h.hears(t, b.Send(0))
		b.Receive(h.says(api.Handshake, h.out()[api.Handshake]), 0)
		checkErrno(t, "Close", b.Close(5, app), api.OK)
		if l := h.hears(t, b.Send(1)); len(l) != 1 || l[0].head.Level != api.App {
			t.Fatalf("%d packets", len(l))
		}

		// A client that is Up, of which the server does not know it yet.
		a, b = line.New(clientConfig(), 0), line.New(serverConfig(), 0)
		round(a, b, 0)
		a.Send(1) // Finished is lost
		checkErrno(t, "Close", a.Close(5, app), api.OK)
		deliver(b, a.Send(1), 1)
		checkEnd(t, b, line.Gone, 5, app)
	}
}

// An error while greeting is told, too, and told again.
func TestErrorWhileGreeting(t *testing.T) {
	l, h := line.New(clientConfig(), 0), newHand(serverConfig())
	h.hears(t, l.Send(0))
	l.Receive(h.says(api.Initial, gram(1)), 0)
	checkEnd(t, l, line.Closed, api.ProtocolViolation, false)
	for range 3 {
		checkFarewell(t, h, l.Send(1), api.Frame{Kind: api.Close, Code: api.ProtocolViolation})
		l.Receive(nil, 2)
	}
}

// The side that is told of an error says nothing any more, also if it had closed itself: nobody is told twice.
func TestClosedHearsClose(t *testing.T) {
	l, h := greeted(t, serverConfig(), 0)
	checkErrno(t, "Close", l.Close(5, false), api.OK)
	closing := h.says(api.App, api.Frame{Kind: api.Ping}, api.Frame{Kind: api.CloseApp, Code: 6})
	// It was to be told before that was received.
	l.Receive(closing, 1)
	checkFarewell(t, h, l.Send(1), api.Frame{Kind: api.Close, Code: 5})
	for _, p := range [][]byte{closing, h.says(api.App, api.Frame{Kind: api.Ping}), []byte("garbage")} {
		l.Receive(p, 2)
		if len(l.Send(2)) > 0 {
			t.Fatal("a side that has closed is answered")
		}
	}
	checkEnd(t, l, line.Closed, 5, false)
}

// A side that has closed opens packets as before.
func TestOpenedWhenClosed(t *testing.T) {
	for _, l := range ended(t) {
		was := l.Opened()
		l.Receive([]byte("garbage"), 5)
		if n := l.Opened(); n != was {
			t.Fatalf("Opened = %d; want %d", n, was)
		}
	}
	l, h := greeted(t, serverConfig(), 0)
	was := l.Opened()
	checkErrno(t, "Close", l.Close(5, false), api.OK)
	p := slices.Concat(h.says(api.Initial, api.Frame{Kind: api.Ping}), h.says(api.App, api.Frame{Kind: api.Ping}))
	l.Receive(p, 1)
	l.Receive(p, 1)
	if n := l.Opened(); n != was+4 {
		t.Fatalf("Opened = %d; want %d", n, was+4)
	}
}
