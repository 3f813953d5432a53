package greet_test

import (
	"bytes"
	"testing"

	"colonnade/api"
	"colonnade/greet"
)

const spare = 90

// roomy returns bytes with spare capacity, and the whole of it.
func roomy(p []byte) ([]byte, []byte) {
	whole := append(bytes.Clone(p), pattern(spare)...)
	return whole[:len(p)], whole
}

// spoil overwrites slices with their spare capacity.
func spoil(l ...[]byte) {
	for _, p := range l {
		p = p[:cap(p)]
		for i := range p {
			p[i] ^= 0xff
		}
	}
}

func checkSpare(t *testing.T, whole, p []byte) {
	t.Helper()
	if !bytes.Equal(whole, append(bytes.Clone(p), pattern(spare)...)) {
		t.Fatal("an argument was changed")
	}
}

// A side keeps nothing of its Config.
func TestMemoryOfNew(t *testing.T) {
	for _, c := range []greet.Config{clientConfig(), serverConfig()} {
		d := c
		var whole [3][]byte
		d.Identity, whole[0] = roomy(c.Identity)
		d.Secret, whole[1] = roomy(c.Secret)
		d.Params, whole[2] = roomy(c.Params)
		m := greet.New(d)
		checkSpare(t, whole[0], c.Identity)
		checkSpare(t, whole[1], c.Secret)
		checkSpare(t, whole[2], c.Params)
		spoil(whole[:]...)

		a, b := m, greet.New(serverConfig())
		if c.Server {
			a, b = greet.New(clientConfig()), m
		}
		exchange(a, b, atMost(5))
		checkDone(t, a, b, sharedBy(clientConfig(), serverConfig()), clientConfig().Params, serverConfig().Params)
	}
}

// atMost cuts pieces of at most most bytes.
func atMost(most int) func(int) int {
	return func(n int) int { return min(n, most) }
}

// A side keeps nothing of what it hears, and what it returns is nothing of its own.
func TestMemoryOfHear(t *testing.T) {
	x := sharedBy(clientConfig(), serverConfig())
	a, b := greet.New(clientConfig()), greet.New(serverConfig())
	say := func(m *greet.Machine, level int, data []byte) {
		for len(data) > 0 {
			n := min(len(data), 7)
			p, whole := roomy(data[:n])
			checkHear(t, m, level, p, 0)
			checkSpare(t, whole, data[:n])
			spoil(whole)
			data = data[n:]
		}
	}
	talk := func(from, to *greet.Machine) {
		for _, p := range from.Out() {
			data := bytes.Clone(p.Data)
			spoil(p.Data)
			say(to, p.Level, data)
		}
		spoilPeer(from)
		spoilPeer(to)
	}
	for range 2 {
		talk(a, b)
		talk(b, a)
	}
	checkDone(t, a, b, x, clientConfig().Params, serverConfig().Params)
}

func spoilPeer(m *greet.Machine) {
	p, _ := m.Peer()
	spoil(p)
}

// The pieces of one Out share no memory, nor do those of a later one.
func TestMemoryOfOut(t *testing.T) {
	x := sharedBy(clientConfig(), serverConfig())
	m := greet.New(serverConfig())
	checkHear(t, m, api.Initial, x.hello, 0)
	l := m.Out()
	want := bytes.Clone(l[1].Data)
	spoil(l[0].Data)
	if !bytes.Equal(l[1].Data, want) {
		t.Error("pieces share memory")
	}

	m = greet.New(clientConfig())
	first := m.Out()
	spoil(first[0].Data)
	kept := bytes.Clone(first[0].Data)
	checkHear(t, m, api.Initial, x.answer, 0)
	checkHear(t, m, api.Handshake, append(bytes.Clone(x.terms), x.server...), 0)
	checkOut(t, m, nil, x.client)
	if !bytes.Equal(first[0].Data, kept) {
		t.Error("a later piece overwrites an earlier one")
	}
}

func TestMemoryOfParams(t *testing.T) {
	p := greet.Params{Idle: 5, Gram: 300}
	a, b := p.Bytes(), p.Bytes()
	want := bytes.Clone(b)
	spoil(a)
	if !bytes.Equal(b, want) {
		t.Error("two results of Bytes share memory")
	}
	text, whole := roomy(want)
	if q, e := greet.ReadParams(text); q != p || e != api.OK {
		t.Errorf("ReadParams = %+v, %d", q, e)
	}
	checkSpare(t, whole, want)
}
