package line_test

import (
	"bytes"
	"slices"
	"testing"

	"colonnade/api"
	"colonnade/line"
	"colonnade/pipe"
)

// After a round trip of 20, sampled twice, a side waits 50 ticks for an acknowledgement, and 22 until a packet is lost that a later one has overtaken.
const (
	trip    = 20
	waiting = 50
	losing  = 22
)

// write writes n bytes on a new stream of one way.
func write(t *testing.T, l *line.Line, n int) uint64 {
	t.Helper()
	id := open(t, l, true)
	checkErrno(t, "Write", l.Write(id, pattern(n), false), api.OK)
	return id
}

func checkTold(t *testing.T, l *line.Line, flight, window, unread int) {
	t.Helper()
	if f, w, u := l.Told(); f != flight || w != window || u != unread {
		t.Fatalf("Told = %d, %d, %d; want %d, %d, %d", f, w, u, flight, window, unread)
	}
}

// total returns the bytes of packets, and those of their Stream frames.
func total(l []packet) (int, int) {
	var size, data int
	for _, p := range l {
		size += p.size
		for _, f := range p.frames {
			if f.Kind == api.Stream {
				data += len(f.Data)
			}
		}
	}
	return size, data
}

// A client says its Hello, once until it waited too long, and then again, each time after twice as long.
func TestHelloAgain(t *testing.T) {
	l, h := line.New(clientConfig(), 0), newHand(serverConfig())
	checkNotDue(t, l)
	sent := h.hears(t, l.Send(0))
	checkKinds(t, "the first packet", sent, api.Crypto)
	hello := sent[0].frames[0]
	at, wait := uint64(0), uint64(32)
	for i := range 30 {
		checkTold(t, l, sent[0].size, 12000, 0)
		if sent[0].pn != uint64(i) || sent[0].head.Level != api.Initial {
			t.Fatalf("packet %d of level %d", sent[0].pn, sent[0].head.Level)
		}
		checkDue(t, l, at+wait)
		if len(l.Send(at+wait-1)) > 0 {
			t.Fatal("something is sent too early")
		}
		at += wait
		sent = h.hears(t, l.Send(at))
		checkKinds(t, "again", sent, api.Crypto)
		checkFrame(t, "again", sent[0].frames[0], hello)
		wait = min(2*wait, 32<<20)
	}
	// What is acknowledged ends it, and waiting begins anew, shorter.
	out := h.out()
	l.Receive(slices.Concat(h.says(api.Initial, h.upTo(api.Initial), out[api.Initial]), h.says(api.Handshake, out[api.Handshake])), at+20)
	checkKinds(t, "the answer", h.hears(t, l.Send(at+20)), api.Ack, api.Ack, api.Crypto)
	checkDue(t, l, at+20+20+40+2)
}

// However many packets were lost, the number of the next one is understood.
func TestNumbersAfterLosses(t *testing.T) {
	l, h := line.New(clientConfig(), 0), newHand(serverConfig())
	var sent [][]byte
	for range 400 {
		at, _ := l.Due()
		sent = l.Send(at)
	}
	if p := h.hears(t, sent); p[0].pn != 399 {
		t.Fatalf("packet %d", p[0].pn)
	}
}

// A server says nothing before it heard something; its answer is one datagram.
func TestAnswer(t *testing.T) {
	l, h := line.New(serverConfig(), 0), newHand(clientConfig())
	checkNotDue(t, l)
	if len(l.Send(1000)) > 0 {
		t.Fatal("a server speaks first")
	}
	l.Receive(h.says(api.Initial, h.out()[api.Initial]), 1000)
	checkNotDue(t, l)
	sent := l.Send(1000)
	if len(sent) != 1 {
		t.Fatalf("%d datagrams", len(sent))
	}
	packets := h.hears(t, sent)
	checkKinds(t, "the answer", packets, api.Ack, api.Crypto, api.Crypto)
	if len(packets) != 2 || packets[0].head.Level != api.Initial || packets[1].head.Level != api.Handshake {
		t.Fatal("the answer is not of two levels")
	}
	checkTold(t, l, packets[0].size+packets[1].size, 12000, 0)
	checkDue(t, l, 1032)
}

// All levels at which nothing was acknowledged for too long say again what they said, and that is one try.
func TestRetryOfTwoLevels(t *testing.T) {
	l, h := line.New(serverConfig(), 0), newHand(clientConfig())
	l.Receive(h.says(api.Initial, h.out()[api.Initial]), 0)
	first := all(h.hears(t, l.Send(0)), api.Crypto)
	for i, at := range []uint64{32, 96, 224} {
		checkDue(t, l, at)
		packets := h.hears(t, l.Send(at))
		checkKinds(t, "again", packets, api.Crypto, api.Crypto)
		for level, p := range packets {
			if p.head.Level != level || p.pn != uint64(i+1) {
				t.Fatalf("packet %d of level %d", p.pn, p.head.Level)
			}
			checkFrame(t, "again", p.frames[0], first[level])
		}
	}
	// An acknowledgement at one level is enough for the wait to be short at the other one, too.
	l.Receive(h.says(api.Initial, h.upTo(api.Initial)), 230)
	checkDue(t, l, 224+6+4*3+2)
	packets := h.hears(t, l.Send(224+20))
	checkKinds(t, "again", packets, api.Crypto)
	if packets[0].head.Level != api.Handshake {
		t.Fatal("the wrong level")
	}
	checkDue(t, l, 244+2*20)
}

// Everything in flight at a level is said again in new packets.
func TestRetryOfStreams(t *testing.T) {
	for _, server := range []bool{true, false} {
		l, h := greeted(t, serverConfig(), trip)
		if !server {
			l, h = greetedClient(t, clientConfig(), trip)
		}
		id := write(t, l, 5000)
		packets := h.hears(t, l.Send(100))
		size, data := total(packets)
		if data != 5000 {
			t.Fatalf("%d bytes are sent", data)
		}
		_, window, _ := l.Told()
		checkTold(t, l, size, window, 0)
		checkDue(t, l, 100+waiting)
		if len(l.Send(100+waiting-1)) > 0 {
			t.Fatal("something is sent too early")
		}
		again := h.hears(t, l.Send(100+waiting))
		size, data = total(again)
		if data != 5000 || again[0].pn != packets[len(packets)-1].pn+1 {
			t.Fatalf("%d bytes are sent from packet %d on", data, again[0].pn)
		}
		checkTold(t, l, size, window, 0)
		// It waits for the last packet.
		checkErrno(t, "Write", l.Write(id, pattern(3), true), api.OK)
		h.hears(t, l.Send(200))
		checkDue(t, l, 200+2*waiting)
		// Acknowledging what was given up tells nothing any more; the last packets do.
		l.Receive(h.says(api.App, acks(api.Range{From: packets[0].pn, To: again[0].pn - 1})), 210)
		checkDue(t, l, 200+2*waiting)
		l.Receive(h.says(api.App, h.upTo(api.App)), 210)
		checkNotDue(t, l)
		if !l.Idle() {
			t.Fatal("it is not idle")
		}
	}
}

// One more packet may be sent at a level that tries again, whatever the meter permits.
func TestExtraPacket(t *testing.T) {
	l, h := line.New(clientConfig(), 0), newHand(serverConfig())
	h.hears(t, l.Send(0))
	out := h.out()
	l.Receive(slices.Concat(h.says(api.Initial, out[api.Initial], h.upTo(api.Initial)), h.says(api.Handshake, out[api.Handshake])), 10)
	h.hears(t, l.Send(10)) // with Finished
	checkState(t, l, line.Up)
	write(t, l, 16384)
	packets := h.hears(t, l.Send(20))
	// Of 10 or 11 packets only the fourth arrives, so the window is halved while it is full.
	l.Receive(h.says(api.App, acks(api.Range{From: packets[3].pn, To: packets[3].pn})), 30)
	if len(l.Send(30)) > 0 {
		t.Fatal("something is sent although the window is full")
	}
	flight, window, _ := l.Told()
	if flight < window+1200 {
		t.Fatalf("%d bytes are in flight, with a window of %d", flight, window)
	}
	// 10 and then 10: Wait is 10 + 4 * 3 + 2.
	checkDue(t, l, 20+11)
	h.hears(t, l.Send(31))
	checkDue(t, l, 10+24)
	packets = h.hears(t, l.Send(34))
	checkKinds(t, "the extra packet", packets, api.Crypto)
	if packets[0].head.Level != api.Handshake {
		t.Fatal("the wrong level")
	}
}

// What is three below the largest acknowledged number is lost, and sent again; the window is halved once.
func TestLostByNumber(t *testing.T) {
	l, h := greeted(t, serverConfig(), trip)
	write(t, l, 10000)
	packets := h.hears(t, l.Send(100))
	_, window, _ := l.Told()
	first := packets[0].pn
	l.Receive(h.says(api.App, acks(api.Range{From: first + 4, To: first + 4})), 110)
	flight, _, _ := l.Told()
	again := h.hears(t, l.Send(110))
	if _, data := total(again); data != 0 {
		t.Fatal("there is room in a window that was full")
	}
	_, w, _ := l.Told()
	if w != (window+1200)/2 {
		t.Fatalf("the window is %d after %d", w, window)
	}
	lost := packets[0].size + packets[1].size
	checkTold(t, l, flight-lost, w, 0)
	// The others are lost by time, in the same recovery.
	checkDue(t, l, 100+20)
	l.Send(119)
	checkTold(t, l, flight-lost, w, 0)
	again = h.hears(t, l.Send(120))
	flight -= lost + packets[2].size + packets[3].size
	size, _ := total(again)
	checkTold(t, l, flight+size, w, 0)
	if size == 0 {
		t.Fatal("nothing is sent again")
	}
	f := all(again, api.Stream)[0]
	if f.Off != 0 {
		t.Fatalf("the bytes from %d on are sent again first", f.Off)
	}
}

// What a later packet has overtaken is lost after some time.
func TestLostByTime(t *testing.T) {
	l, h := greeted(t, serverConfig(), trip)
	id := write(t, l, 10)
	one := h.hears(t, l.Send(100))
	checkErrno(t, "Write", l.Write(id, pattern(10), true), api.OK)
	two := h.hears(t, l.Send(105))
	l.Receive(h.says(api.App, acks(api.Range{From: two[0].pn, To: two[0].pn})), 105+trip)
	checkDue(t, l, 100+losing)
	again := h.hears(t, l.Send(105+trip))
	checkKinds(t, "again", again, api.Stream)
	checkFrame(t, "again", again[0].frames[0], one[0].frames[0])
	_, window, _ := l.Told()
	if window < 6000 || window > 6500 {
		t.Fatalf("the window is %d", window)
	}
}

// A delay that the other side tells is subtracted from the sample, and this side tells its own.
func TestDelay(t *testing.T) {
	l, h := greeted(t, serverConfig(), trip)
	write(t, l, 10)
	h.hears(t, l.Send(100))
	f := h.upTo(api.App)
	f.N = 40
	l.Receive(h.says(api.App, f, api.Frame{Kind: api.Ping}), 100+trip+40)
	// 20 once more: the smoothed value stays 20, the variation becomes 5.
	sent := h.hears(t, l.Send(100+trip+47))
	checkKinds(t, "the answer", sent, api.Ack)
	if n := sent[0].frames[0].N; n != 7 {
		t.Fatalf("the delay is %d", n)
	}
	write(t, l, 10)
	h.hears(t, l.Send(200))
	checkDue(t, l, 200+20+20+2)
	// The delay is that of the largest number, whatever comes after it.
	l.Receive(h.plain(api.App, 60, joinFrames(t, api.Frame{Kind: api.Ping})), 210)
	l.Receive(h.plain(api.App, 50, joinFrames(t, api.Frame{Kind: api.Ping})), 215)
	sent = h.hears(t, l.Send(216))
	if f := all(sent, api.Ack)[0]; f.N != 6 || f.Ranges[0].To != 60 {
		t.Fatalf("the Ack is %v", f)
	}
}

// Everything received that must be acknowledged is, and nothing else leads to an Ack.
func TestAcks(t *testing.T) {
	l, h := greeted(t, serverConfig(), trip)
	for _, f := range []api.Frame{{Kind: api.Padding, N: 9}, acks(api.Range{})} {
		l.Receive(h.says(api.Initial, f), 100)
		if len(l.Send(100)) > 0 || !l.Idle() {
			t.Fatalf("a packet with %v is acknowledged", f)
		}
	}
	from := h.next[api.Initial]
	h.next[api.Initial] += 3
	l.Receive(h.says(api.Initial, api.Frame{Kind: api.Padding, N: 9}, api.Frame{Kind: api.Ping}), 100)
	if l.Idle() {
		t.Fatal("it is idle with something to be acknowledged")
	}
	sent := h.hears(t, l.Send(100))
	checkKinds(t, "the answer", sent, api.Ack)
	// What need not be acknowledged is, beside it.
	checkFrame(t, "the answer", sent[0].frames[0], acks(api.Range{From: from + 3, To: from + 3}, api.Range{From: 0, To: from - 1}))
	flight, _, _ := l.Told()
	if len(l.Send(100)) > 0 || !l.Idle() || flight > 0 {
		t.Fatal("an Ack is sent twice, or is in flight")
	}
	checkNotDue(t, l)
}

// However many gaps there are, all is acknowledged.
func TestAcksOfManyGaps(t *testing.T) {
	for _, n := range []int{1, 15, 16, 17, 32, 33, 100, 1000} {
		l, h := greeted(t, serverConfig(), trip)
		base := h.next[api.App]
		for i := range n {
			l.Receive(h.plain(api.App, base+uint64(2*i), joinFrames(t, api.Frame{Kind: api.Ping})), 100)
		}
		acked := make(map[uint64]int)
		sent := l.Send(100)
		bounded(t, l, sent)
		for _, f := range all(h.hears(t, sent), api.Ack) {
			for _, r := range f.Ranges {
				for k := r.From; k <= r.To; k++ {
					acked[k]++
				}
			}
		}
		for i := range n {
			if acked[base+uint64(2*i)] != 1 || acked[base+uint64(2*i)+1] != 0 {
				t.Fatalf("of %d packets, number %d is acknowledged %d times", n, 2*i, acked[base+uint64(2*i)])
			}
		}
		if len(l.Send(101)) > 0 || !l.Idle() {
			t.Fatal("they are acknowledged twice")
		}
	}
}

// If acknowledgements leave little room, the handshake goes on in the next datagrams.
func TestHandshakeWithLittleRoom(t *testing.T) {
	c := serverConfig()
	c.Params.Idle = api.MaxNum
	for n := range 600 {
		l, h := line.New(c, 0), newHand(clientConfig())
		hello := h.out()[api.Initial]
		l.Receive(h.says(api.Initial, hello), 0)
		for range n {
			h.next[api.Initial]++
			l.Receive(h.says(api.Initial, api.Frame{Kind: api.Ping}), 0)
		}
		sent := l.Send(0)
		bounded(t, l, sent)
		h.hears(t, sent)
		l.Receive(h.says(api.Handshake, h.out()[api.Handshake]), 1)
		checkOpen(t, l, line.Up)
	}
}

// As much is sent as the meter permits; acknowledgements alone are always permitted.
func TestMeter(t *testing.T) {
	l, h := greeted(t, serverConfig(), trip)
	write(t, l, 16384)
	write(t, l, 16384)
	packets := h.hears(t, l.Send(100))
	flight, window, _ := l.Told()
	if size, _ := total(packets); size != flight || flight > window || flight < window-40 {
		t.Fatalf("%d bytes are in flight of %d that were sent, with a window of %d", flight, size, window)
	}
	for _, p := range packets[:10] {
		if p.size != api.MaxPacket {
			t.Fatalf("a packet has %d bytes", p.size)
		}
	}
	checkErrno(t, "Gram", l.Gram(pattern(9)), api.OK)
	checkErrno(t, "Raw", l.Raw([]byte{1, 1, 1}), api.OK)
	l.Receive(h.says(api.App, api.Frame{Kind: api.Ping}, api.Frame{Kind: api.PathChallenge, Data: make([]byte, 8)}), 101)
	l.Receive(h.says(api.Initial, api.Frame{Kind: api.Ping}), 101)
	sent := h.hears(t, l.Send(101))
	checkKinds(t, "while the window is full", sent, api.Ack, api.Ack)
	checkTold(t, l, flight, window, 0)
	// Once something is acknowledged, as much more is sent.
	l.Receive(h.says(api.App, acks(api.Range{From: packets[0].pn, To: packets[1].pn})), 102)
	checkTold(t, l, flight-2400, window+2400, 0)
	sent = h.hears(t, l.Send(102))
	size, _ := total(sent)
	checkTold(t, l, flight-2400+size, window+2400, 0)
	if size < 4800-40 || size > 4800+window-flight {
		t.Fatalf("%d bytes are sent", size)
	}
}

// Acknowledgements beside something else count, too.
func TestMeterWithAcks(t *testing.T) {
	for n := range 40 {
		l, h := greeted(t, serverConfig(), trip)
		id := write(t, l, 11000+n*30)
		h.hears(t, l.Send(100))
		for range 15 {
			h.next[api.App]++
			l.Receive(h.says(api.App, api.Frame{Kind: api.Ping}), 101)
		}
		checkErrno(t, "Write", l.Write(id, pattern(1500), false), api.OK)
		h.hears(t, l.Send(101))
		if flight, window, _ := l.Told(); flight > window || flight < window-40 {
			t.Fatalf("%d bytes are in flight, with a window of %d", flight, window)
		}
	}
}

// A packet that is filled up to the least length stays within the window, too.
func TestMeterOfShortPackets(t *testing.T) {
	for n := range 100 {
		l, h := greeted(t, serverConfig(), trip)
		l.Receive(h.says(api.App, streamFrame(streamU, 0, "abc", true)), 99)
		h.hears(t, l.Send(99))
		_, window, _ := l.Told()
		// 10 packets of 1200 bytes, and one that leaves n bytes.
		write(t, l, 10*(api.MaxPacket-33)+window-10*api.MaxPacket-n)
		h.hears(t, l.Send(100))
		l.Read(streamU, 9)
		h.hears(t, l.Send(100))
		if flight, _, _ := l.Told(); flight > window || flight < window-n-100 {
			t.Fatalf("%d bytes are in flight, with a window of %d", flight, window)
		}
	}
}

// At most 16 datagrams are sent at once; the others wait for the next Send.
func TestMostDatagrams(t *testing.T) {
	l, h := greeted(t, serverConfig(), trip)
	id := write(t, l, 1)
	now := uint64(100)
	for range 10 {
		checkErrno(t, "Write", l.Write(id, pattern(9000), false), api.OK)
		h.hears(t, l.Send(now))
		now += trip
		l.Receive(h.says(api.App, h.upTo(api.App)), now)
	}
	if _, window, _ := l.Told(); window < 40*api.MaxPacket {
		t.Fatalf("the window is %d", window)
	}
	for range 3 {
		write(t, l, 16384)
	}
	for _, want := range []int{16, 16} {
		sent := l.Send(now)
		if len(sent) != want {
			t.Fatalf("%d datagrams", len(sent))
		}
		for _, p := range sent {
			if len(p) != api.MaxPacket {
				t.Fatalf("a datagram has %d bytes", len(p))
			}
		}
	}
	if n := len(l.Send(now)); n < 9 || n > 12 {
		t.Fatalf("%d datagrams", n)
	}
	if len(l.Send(now)) > 0 {
		t.Fatal("more is sent")
	}
}

// A packet has no more frames than may be read.
func TestManyFrames(t *testing.T) {
	client, server := clientConfig(), serverConfig()
	client.Params.Uni = 2000
	a, b := joined(t, client, server, 0)
	for range 1000 {
		id := open(t, b, true)
		checkErrno(t, "Write", b.Write(id, []byte("x"), true), api.OK)
	}
	challenge := bytes.Repeat([]byte{0x1a, 1, 2, 3, 4, 5, 6, 7, 8}, 100)
	for range 3 {
		checkErrno(t, "Raw", a.Raw(challenge), api.OK)
		deliver(b, a.Send(1), 1)
	}
	rest(t, a, b, 1)
	checkOpen(t, a, line.Up)
	checkOpen(t, b, line.Up)
	if n := len(a.Came()); n != 1000 {
		t.Fatalf("%d streams came", n)
	}
	for i := range uint64(1000) {
		if p, done, _, e := a.Read(4*i+serverU, 9); string(p) != "x" || !done || e != api.OK {
			t.Fatalf("stream %d: Read = %q, %v, %d", i, p, done, e)
		}
	}
	rest(t, a, b, 2)
	if !a.Idle() || !b.Idle() {
		t.Fatal("a side is not idle")
	}
}

// A packet carries acknowledgements, then what answers, then streams, the ones with the smallest rank first, then datagram frames.
func TestOrder(t *testing.T) {
	l, h := greeted(t, serverConfig(), trip)
	checkErrno(t, "Gram", l.Gram([]byte("gram")), api.OK)
	one, two := write(t, l, 10), write(t, l, 20)
	checkErrno(t, "Rank", l.Rank(one, pipe.Rank{1}), api.OK)
	checkErrno(t, "Reset", l.Reset(open(t, l, true), 5), api.OK)
	l.Receive(h.says(api.App, api.Frame{Kind: api.PathChallenge, Data: make([]byte, 8)}), 100)
	sent := h.hears(t, l.Send(100))
	checkKinds(t, "the packet", sent, api.Ack, api.PathResponse, api.ResetStream, api.Stream, api.Stream, api.Datagram)
	if f := all(sent, api.Stream); f[0].ID != two || f[1].ID != one {
		t.Fatalf("stream %d is before stream %d", f[0].ID, f[1].ID)
	}
}

// An Ack may name packets that need not be acknowledged. They are no samples, but show that earlier ones are lost.
func TestAcksOfAcks(t *testing.T) {
	l, h := greeted(t, serverConfig(), trip)
	id := write(t, l, 10)
	first := h.hears(t, l.Send(100))[0].pn
	ping := func(now uint64) {
		t.Helper()
		l.Receive(h.says(api.App, api.Frame{Kind: api.Ping}), now)
		checkKinds(t, "the answer", h.hears(t, l.Send(now)), api.Ack)
	}
	ping(110)
	l.Receive(h.says(api.App, acks(api.Range{From: first, To: first + 1})), 149)
	checkNotDue(t, l)
	if !l.Idle() {
		t.Fatal("it is not idle")
	}
	checkErrno(t, "Write", l.Write(id, pattern(10), false), api.OK)
	sent := h.hears(t, l.Send(200))
	checkDue(t, l, 200+waiting)
	for range 3 {
		ping(201)
	}
	l.Receive(h.says(api.App, acks(api.Range{From: first + 5, To: first + 5})), 202)
	again := h.hears(t, l.Send(202))
	checkKinds(t, "again", again, api.Stream)
	checkFrame(t, "again", again[0].frames[0], sent[0].frames[0])
	_, window, _ := l.Told()
	checkTold(t, l, again[0].size, window, 0)
}

// Only the largest number of an Ack is a sample, and only when it is acknowledged first.
func TestSamples(t *testing.T) {
	l, h := greeted(t, serverConfig(), trip)
	id := write(t, l, 10)
	first := h.hears(t, l.Send(100))[0].pn
	checkErrno(t, "Write", l.Write(id, pattern(10), false), api.OK)
	h.hears(t, l.Send(110))
	l.Receive(h.says(api.App, acks(api.Range{From: first + 1, To: first + 1})), 130)
	l.Receive(h.says(api.App, acks(api.Range{From: first, To: first + 1})), 180)
	l.Receive(h.says(api.App, acks(api.Range{From: first, To: first + 1})), 190)
	checkErrno(t, "Write", l.Write(id, pattern(10), false), api.OK)
	h.hears(t, l.Send(200))
	// 20 for the third time: the variation is 5.
	checkDue(t, l, 200+20+4*5+2)
}

// An Ack may be of what was sent, and of nothing more.
func TestAckOfTheNext(t *testing.T) {
	for level := range 3 {
		for more := range uint64(2) {
			l, h := greeted(t, serverConfig(), trip)
			write(t, l, 10)
			h.hears(t, l.Send(100))
			last := h.came[level] - 1
			l.Receive(h.says(level, acks(api.Range{From: last, To: last + more})), 101)
			if more == 0 {
				checkOpen(t, l, line.Up)
			} else {
				checkEnd(t, l, line.Closed, api.ProtocolViolation, false)
			}
		}
	}
	// Of nothing, if nothing was sent.
	l, h := line.New(serverConfig(), 0), newHand(clientConfig())
	l.Receive(h.says(api.Initial, acks(api.Range{})), 0)
	checkEnd(t, l, line.Closed, api.ProtocolViolation, false)
}

// What is lost is sent again, except datagram frames.
func TestWhatIsSentAgain(t *testing.T) {
	l, h := greeted(t, serverConfig(), trip)
	write(t, l, 10)
	checkErrno(t, "Gram", l.Gram([]byte("gram")), api.OK)
	l.Receive(h.says(api.App, api.Frame{Kind: api.PathChallenge, Data: []byte("12345678")}), 100)
	sent := h.hears(t, l.Send(100))
	checkKinds(t, "the packet", sent, api.Ack, api.PathResponse, api.Stream, api.Datagram)
	again := h.hears(t, l.Send(100+waiting))
	checkKinds(t, "again", again, api.PathResponse, api.Stream)
	if string(again[0].frames[0].Data) != "12345678" {
		t.Fatal("another PathResponse")
	}
	again = h.hears(t, l.Send(100+waiting+2*waiting))
	checkKinds(t, "again", again, api.PathResponse, api.Stream)
}

// A datagram frame that is lost is given up, and makes nothing slower.
func TestLostGrams(t *testing.T) {
	l, h := greeted(t, serverConfig(), trip)
	for i := range uint64(5) {
		now := 100 * (i + 1)
		checkErrno(t, "Gram", l.Gram([]byte("gram")), api.OK)
		h.hears(t, l.Send(now))
		if l.Idle() {
			t.Fatal("it is idle with something in flight")
		}
		checkDue(t, l, now+waiting)
		if len(l.Send(now+waiting)) > 0 || !l.Idle() {
			t.Fatal("a datagram frame is sent again")
		}
		checkNotDue(t, l)
		_, window, _ := l.Told()
		checkTold(t, l, 0, window, 0)
	}
}

// A level that has something to say again counts as a try, whatever the other ones have.
func TestTryWithLostGrams(t *testing.T) {
	l, h := line.New(clientConfig(), 0), newHand(serverConfig())
	h.hears(t, l.Send(0))
	out := h.out()
	l.Receive(slices.Concat(h.says(api.Initial, out[api.Initial], h.upTo(api.Initial)), h.says(api.Handshake, out[api.Handshake])), trip)
	checkErrno(t, "Gram", l.Gram([]byte("gram")), api.OK)
	checkKinds(t, "the answer", h.hears(t, l.Send(trip)), api.Ack, api.Ack, api.Crypto, api.Datagram)
	checkDue(t, l, trip+20+40+2)
	checkKinds(t, "again", h.hears(t, l.Send(trip+62)), api.Crypto)
	checkDue(t, l, trip+62+2*62)
}

// What is lost goes into no datagram in which there is no room for it.
func TestLostRaw(t *testing.T) {
	l, h := greeted(t, serverConfig(), trip)
	raw := append([]byte{0x31, 0x43, 0xe5}, make([]byte, 997)...)
	checkErrno(t, "Raw", l.Raw(raw), api.OK)
	h.hears(t, l.Send(100))
	for range 100 {
		h.next[api.Initial]++
		l.Receive(h.says(api.Initial, api.Frame{Kind: api.Ping}), 101)
	}
	sent := l.Send(100 + waiting)
	bounded(t, l, sent)
	if f := all(h.hears(t, sent), api.Datagram); len(f) != 1 || len(f[0].Data) != 997 {
		t.Fatalf("%d datagram frames", len(f))
	}
}

// The connection ends when no packet was opened for the smaller one of both sides' times.
func TestIdleTime(t *testing.T) {
	for _, x := range []struct{ own, other, want uint64 }{
		{0, 0, 0}, {100, 0, 100}, {0, 100, 100}, {100, 200, 100}, {200, 100, 100}, {100, 100, 100}, {1, 0, 1}, {api.MaxNum, 70, 70},
	} {
		for _, server := range []bool{true, false} {
			client, other := clientConfig(), serverConfig()
			client.Params.Idle, other.Params.Idle = x.own, x.other
			a, b := joined(t, client, other, 50)
			l := a
			if server {
				l = b
			}
			if x.want == 0 {
				checkNotDue(t, l)
				l.Send(api.MaxNum)
				checkOpen(t, l, line.Up)
				continue
			}
			checkDue(t, l, 50+x.want)
			l.Send(50 + x.want - 1)
			checkOpen(t, l, line.Up)
			// It is not the line's own datagrams that count.
			open(t, l, true)
			l.Send(50 + x.want)
			checkOpen(t, l, line.Gone)
			checkNotDue(t, l)
			if len(l.Send(9999)) > 0 {
				t.Fatal("something is sent")
			}
			checkErrno(t, "Write", l.Write(0, nil, true), api.ErrClosed)
		}
	}
}

// A side that has closed stays so.
func TestIdleTimeWhenClosed(t *testing.T) {
	c := serverConfig()
	c.Params.Idle = 100
	l, h := greeted(t, c, 0)
	checkErrno(t, "Close", l.Close(5, true), api.OK)
	checkNotDue(t, l)
	checkFarewell(t, h, l.Send(1000), api.Frame{Kind: api.CloseApp, Code: 5})
	checkEnd(t, l, line.Closed, 5, true)
}

// While greeting, only the own time is known.
func TestIdleTimeWhileGreeting(t *testing.T) {
	for _, c := range []line.Config{clientConfig(), serverConfig()} {
		c.Params.Idle = 20
		l := line.New(c, 1000)
		l.Send(1000)
		checkDue(t, l, 1020)
		l.Send(1019)
		checkOpen(t, l, line.Greeting)
		if len(l.Send(1020)) > 0 {
			t.Fatal("something is sent")
		}
		checkOpen(t, l, line.Gone)
		if len(l.Send(5000)) > 0 {
			t.Fatal("something is sent")
		}
	}
}

// Each packet that is opened begins the time anew; garbage does not.
func TestIdleTimeAnew(t *testing.T) {
	c := serverConfig()
	c.Params.Idle = 100
	l, h := greeted(t, c, 0)
	p := h.says(api.App, api.Frame{Kind: api.Padding, N: 9})
	l.Receive(p, 60)
	checkDue(t, l, 160)
	l.Receive(h.says(api.Initial, api.Frame{Kind: api.Padding, N: 9}), 110)
	checkDue(t, l, 210)
	l.Receive(make([]byte, 100), 150)
	checkDue(t, l, 210)
	// It is opened each time.
	l.Receive(p, 120)
	checkDue(t, l, 250)
	p[20] ^= 1
	l.Receive(p, 150)
	l.Send(249)
	checkOpen(t, l, line.Up)
	l.Send(250)
	checkOpen(t, l, line.Gone)
}

// Something else can be due before the end.
func TestDueBeforeTheEnd(t *testing.T) {
	c := serverConfig()
	c.Params.Idle = 200
	l, h := greeted(t, c, trip)
	write(t, l, 10)
	h.hears(t, l.Send(100))
	checkDue(t, l, 150)
	h.hears(t, l.Send(150))
	checkDue(t, l, 220)
}

// A now below an earlier one counts as that one.
func TestEarlierNow(t *testing.T) {
	c := serverConfig()
	c.Params.Idle = 100
	l, h := greeted(t, c, 0)
	l.Send(80)
	l.Receive(h.says(api.App, api.Frame{Kind: api.Padding, N: 9}), 10)
	checkDue(t, l, 180)
	l.Receive(h.says(api.App, api.Frame{Kind: api.Padding, N: 9}), 120)
	checkDue(t, l, 220)
	write(t, l, 10)
	h.hears(t, l.Send(0))
	checkDue(t, l, 120+3)
	l.Send(5)
	checkDue(t, l, 120+3)

	d := line.New(clientConfig(), 500)
	d.Send(0)
	checkDue(t, d, 532)
}

// No tick is too late for a line.
func TestLateTicks(t *testing.T) {
	for _, now := range []uint64{api.MaxTick, api.MaxNum - 1, api.MaxNum, api.MaxNum + 1, 1<<64 - 1} {
		c := clientConfig()
		c.Params.Idle = 1<<64 - 1
		a, b := line.New(c, now), line.New(serverConfig(), now)
		rest(t, a, b, now)
		checkOpen(t, a, line.Up)
		checkOpen(t, b, line.Up)
		id := write(t, a, 10)
		rest(t, a, b, now)
		if p, _, _, _ := b.Read(id, 10); len(p) != 10 {
			t.Fatalf("Read = %x", p)
		}
		write(t, a, 10)
		a.Send(now)
		if at, ok := a.Due(); ok && at > api.MaxNum {
			t.Fatalf("Due = %d", at)
		}
	}
}
