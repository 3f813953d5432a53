package line_test

import (
	"bytes"
	"slices"
	"testing"

	"colonnade/api"
	"colonnade/line"
)

const spare = 90

// roomy returns bytes with spare capacity, and the whole of it.
func roomy(p []byte) ([]byte, []byte) {
	whole := append(bytes.Clone(p), pattern(spare)...)
	return whole[:len(p)], whole
}

// spoil overwrites slices with their spare capacity.
func spoil(l ...[]byte) {
	for _, p := range l {
		p = p[:cap(p)]
		for i := range p {
			p[i] ^= 0xff
		}
	}
}

func checkSpare(t *testing.T, whole, p []byte) {
	t.Helper()
	if !bytes.Equal(whole, append(bytes.Clone(p), pattern(spare)...)) {
		t.Fatal("an argument was changed")
	}
}

// pass lets everything that one side sends arrive at the other; then the datagrams are spoiled.
func pass(t *testing.T, from, to *line.Line, now uint64) {
	t.Helper()
	sent := from.Send(now)
	for i, p := range sent {
		q, whole := roomy(p)
		// No datagram shares memory with another one.
		spoil(p)
		was := bytes.Clone(whole)
		to.Receive(q, now)
		if !bytes.Equal(whole, was) {
			t.Fatal("Receive changed a datagram")
		}
		spoil(whole)
		sent[i] = nil
	}
}

func restSpoiled(t *testing.T, a, b *line.Line, now uint64) {
	t.Helper()
	for range 20 {
		pass(t, a, b, now)
		pass(t, b, a, now)
	}
}

// A line keeps nothing of its arguments, and what it returns may be overwritten.
func TestMemory(t *testing.T) {
	var lines []*line.Line
	for _, c := range []line.Config{clientConfig(), serverConfig()} {
		d := c
		var whole [2][]byte
		d.Identity, whole[0] = roomy(c.Identity)
		d.Secret, whole[1] = roomy(c.Secret)
		lines = append(lines, line.New(d, 0))
		checkSpare(t, whole[0], c.Identity)
		checkSpare(t, whole[1], c.Secret)
		spoil(whole[:]...)
	}
	a, b := lines[0], lines[1]
	restSpoiled(t, a, b, 0)
	checkOpen(t, a, line.Up)
	checkOpen(t, b, line.Up)

	id := open(t, a, false)
	text, whole := roomy([]byte("some text"))
	checkErrno(t, "Write", a.Write(id, text, false), api.OK)
	checkErrno(t, "Gram", a.Gram(text), api.OK)
	checkErrno(t, "Gram", a.Gram(text[:4]), api.OK)
	checkSpare(t, whole, []byte("some text"))
	spoil(whole)
	// The first packets are lost and were spoiled; what is sent again is whole.
	spoil(a.Send(1)...)
	text, whole = roomy([]byte("first"))
	checkErrno(t, "Gram", a.Gram(text), api.OK)
	spoil(whole)
	checkErrno(t, "Gram", a.Gram([]byte("second")), api.OK)
	restSpoiled(t, a, b, 100)
	p, _, _, e := b.Read(id, 4)
	q, _, _, _ := b.Read(id, 9)
	if string(p) != "some" || string(q) != " text" || e != api.OK {
		t.Fatalf("Read = %q, %q, %d", p, q, e)
	}
	spoil(p)
	if string(q) != " text" {
		t.Fatal("two results share memory")
	}
	g := b.Grams()
	if len(g) != 2 || string(g[0]) != "first" {
		t.Fatalf("Grams = %q", g)
	}
	spoil(g[0])
	if string(g[1]) != "second" {
		t.Fatal("two datagram frames share memory")
	}
	came := b.Came()
	if !slices.Equal(came, []uint64{id}) {
		t.Fatalf("Came = %d", came)
	}
	came[0] = 99

	raw, whole := roomy([]byte{0x1a, 1, 2, 3, 4, 5, 6, 7, 8})
	checkErrno(t, "Raw", a.Raw(raw), api.OK)
	checkSpare(t, whole, []byte{0x1a, 1, 2, 3, 4, 5, 6, 7, 8})
	spoil(whole)
	spoil(a.Send(200)...)
	restSpoiled(t, a, b, 400)
	checkOpen(t, b, line.Up)
	if !a.Idle() || !b.Idle() {
		t.Fatal("a side is not idle")
	}
	// One byte has no room to be filled up in, as the spare capacity is not its own.
	raw, whole = roomy([]byte{1})
	checkErrno(t, "Raw", a.Raw(raw), api.OK)
	checkSpare(t, whole, []byte{1})
}

// What was received is kept apart from the datagram: the server's name, and what is to be answered.
func TestMemoryOfReceive(t *testing.T) {
	l, h := line.New(serverConfig(), 0), newHand(clientConfig())
	receive := func(p []byte) {
		l.Receive(p, 0)
		spoil(p)
	}
	receive(h.says(api.Initial, h.out()[api.Initial]))
	h.hears(t, l.Send(0))
	receive(h.says(api.Handshake, h.out()[api.Handshake]))
	receive(h.says(api.App, gram(9), api.Frame{Kind: api.PathChallenge, Data: []byte("12345678")}, streamFrame(stream0, 0, "abc", true)))
	checkOpen(t, l, line.Up)
	sent := h.hears(t, l.Send(0))
	if f := all(sent, api.PathResponse); len(f) != 1 || string(f[0].Data) != "12345678" {
		t.Fatalf("the answer is %v", f)
	}
	if !bytes.Equal(sent[0].head.To, clientName[:]) {
		t.Fatalf("the answer is to %x", sent[0].head.To)
	}
	if g := l.Grams(); !bytes.Equal(g[0], pattern(9)) {
		t.Fatalf("Grams = %x", g)
	}
	if p, _, _, _ := l.Read(stream0, 9); string(p) != "abc" {
		t.Fatalf("Read = %q", p)
	}
}

// Two lines share nothing.
func TestLinesApart(t *testing.T) {
	a, b := pair(t)
	c, d := pair(t)
	checkErrno(t, "Close", a.Close(5, false), api.OK)
	rest(t, a, b, 1)
	rest(t, c, d, 1)
	checkOpen(t, c, line.Up)
	checkOpen(t, d, line.Up)
	if id := open(t, c, true); id != streamU {
		t.Fatalf("Open = %d", id)
	}
}
