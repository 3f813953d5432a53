package greet_test

import (
	"bytes"
	"fmt"
	"slices"
	"testing"

	"colonnade/api"
	"colonnade/greet"
	"colonnade/vint"
)

// A message of another kind is wrong when it is complete, whatever its form is.
func TestHearWrongKinds(t *testing.T) {
	for _, s := range states() {
		next, ok := s.next()
		if !ok {
			continue
		}
		for kind := range 256 {
			if byte(kind) == next.Data[0] {
				continue
			}
			for _, n := range []int{0, 1, 32, 33, 1024} {
				p := message(byte(kind), pattern(n))
				m := s.machine()
				checkHear(t, m, next.Level, p[:len(p)-1], 0)
				checkHear(t, m, next.Level, p[len(p)-1:], unexpected)
				checkHear(t, s.machine(), next.Level, p, unexpected)
			}
		}
	}
}

// The client's own messages are none that it expects, nor are the server's.
func TestHearOwnMessages(t *testing.T) {
	x := sharedBy(clientConfig(), serverConfig())
	checkHear(t, greet.New(clientConfig()), api.Initial, x.hello, unexpected)
	checkHear(t, state{false, 1}.machine(), api.Handshake, x.server, unexpected)
	checkHear(t, state{false, 2}.machine(), api.Handshake, x.terms, unexpected)
	checkHear(t, state{false, 2}.machine(), api.Handshake, x.client, badMAC)
	checkHear(t, greet.New(serverConfig()), api.Initial, x.answer, unexpected)
	checkHear(t, state{true, 1}.machine(), api.Handshake, x.terms, unexpected)
	checkHear(t, state{true, 1}.machine(), api.Handshake, x.server, badMAC)
}

// Where no message is expected, one byte is too much; none is not.
func TestHearWrongLevels(t *testing.T) {
	for _, s := range states() {
		next, ok := s.next()
		for _, level := range []int{-1 << 62, -2, -1, api.Initial, api.Handshake, api.App, 3, 4, 1 << 62} {
			if level == next.Level && ok {
				continue
			}
			for n := 1; n <= len(next.Data); n++ {
				m := s.machine()
				checkHear(t, m, level, nil, 0)
				checkHear(t, m, level, []byte{}, 0)
				checkHear(t, m, level, next.Data[:n], unexpected)
				checkHear(t, m, level, nil, unexpected)
			}
		}
	}
}

// The bytes of nothing are nothing, and what was heard of a message before stays.
func TestHearNothing(t *testing.T) {
	for _, s := range states() {
		next, ok := s.next()
		if !ok {
			continue
		}
		m := s.machine()
		checkHear(t, m, next.Level, next.Data[:7], 0)
		for _, level := range []int{-1, api.Initial, api.Handshake, api.App, 3} {
			checkHear(t, m, level, nil, 0)
		}
		checkHear(t, m, next.Level, next.Data[7:], 0)
	}
}

// The beginning of a message at one level is not that of a message at another one.
func TestHearOtherLevelAfterSome(t *testing.T) {
	for _, s := range states() {
		next, ok := s.next()
		for level := range 3 {
			if level == next.Level || !ok {
				continue
			}
			m := s.machine()
			checkHear(t, m, next.Level, []byte{next.Data[0], 0xff, 0xff}, 0)
			checkHear(t, m, level, []byte{0xff}, unexpected)
			m = s.machine()
			checkHear(t, m, next.Level, next.Data[:3], 0)
			checkHear(t, m, level, []byte{0xff, 0xff, 0xff, 0xff}, badForm)
		}
	}
}

var longHeads = [][]byte{{0, 4, 1}, {0, 0xff, 0xff}, {1, 0, 0}, {1, 0, 32}, {0xff, 0xff, 0xff}}

// The length is checked first, and as soon as its last byte is there, at each level.
func TestHearLongMessages(t *testing.T) {
	for _, s := range states() {
		next, _ := s.next()
		for _, kind := range []byte{0, hello, answer, terms, finished, 255} {
			for _, size := range longHeads {
				head := append([]byte{kind}, size...)
				for level := range 3 {
					checkHear(t, s.machine(), level, head, badForm)
					checkHear(t, s.machine(), level, append(head, pattern(2000)...), badForm)
					m := s.machine()
					if level != next.Level {
						checkHear(t, m, level, head[:3], unexpected)
						continue
					}
					for i := range 3 {
						checkHear(t, m, level, head[i:i+1], 0)
					}
					checkHear(t, m, level, head[3:], badForm)
				}
				for _, level := range []int{-1, 3} {
					checkHear(t, s.machine(), level, head, unexpected)
				}
			}
		}
	}
}

// A body of 1024 bytes is not too long, but of no message's form.
func TestHearLongestMessages(t *testing.T) {
	for _, s := range states() {
		next, _ := s.next()
		p := message(next.Data[0], make([]byte, 1024))
		for level := range 3 {
			m := s.machine()
			if level != next.Level {
				checkHear(t, m, level, p, unexpected)
				continue
			}
			checkHear(t, m, level, p[:4], 0)
			checkHear(t, m, level, p[4:len(p)-1], 0)
			checkHear(t, m, level, p[len(p)-1:], badForm)
		}
	}
}

// After a message that is right, the length of the next one is checked, then whether there is a next one.
func TestHearMoreThanExpected(t *testing.T) {
	for _, s := range states() {
		next, ok := s.next()
		after, more := state{s.server, s.heard + 1}.next()
		if !ok || more && after.Level == next.Level {
			continue
		}
		for _, x := range []struct {
			p    []byte
			want uint64
		}{
			{[]byte{0}, unexpected},
			{next.Data, unexpected},
			{after.Data, unexpected},
			{[]byte{0xff, 0xff, 0xff}, unexpected},
			{[]byte{0, 0, 4, 0}, unexpected},
			{[]byte{0, 0, 4, 1}, badForm},
		} {
			m := s.machine()
			checkHear(t, m, next.Level, slices.Concat(next.Data, x.p), x.want)
			m = s.machine()
			checkHear(t, m, next.Level, next.Data, 0)
			checkHear(t, m, next.Level, x.p, x.want)
		}
	}
}

// Everything before the first wrong message counts.
func TestHearUpToTheFirstWrong(t *testing.T) {
	x := sharedBy(clientConfig(), serverConfig())
	m := greet.New(serverConfig())
	checkHear(t, m, api.Initial, append(bytes.Clone(x.hello), 1), unexpected)
	checkState(t, m, &x.handshake, &x.app, clientConfig().Params, false)
	checkOut(t, m, x.answer, slices.Concat(x.terms, x.server))

	m = state{true, 1}.machine()
	checkHear(t, m, api.Handshake, append(bytes.Clone(x.client), finished), unexpected)
	checkState(t, m, &x.handshake, &x.app, clientConfig().Params, true)

	m = state{false, 1}.machine()
	checkHear(t, m, api.Handshake, slices.Concat(x.terms, x.terms, []byte{0, 0xff, 0xff, 0xff}), unexpected)
	checkState(t, m, &x.handshake, nil, serverConfig().Params, false)

	m = state{false, 1}.machine()
	checkHear(t, m, api.Handshake, slices.Concat(x.terms, message(finished, nil), x.terms), badForm)
	checkState(t, m, &x.handshake, nil, serverConfig().Params, false)

	m = state{false, 1}.machine()
	checkHear(t, m, api.Handshake, slices.Concat(x.terms, x.server, x.server), unexpected)
	checkState(t, m, &x.handshake, &x.app, serverConfig().Params, true)
	checkOut(t, m, nil, x.client)
}

// After a wrong message, whatever comes has no effect, and the code stays.
func TestHearAfterWrong(t *testing.T) {
	x := sharedBy(clientConfig(), serverConfig())
	for _, s := range states() {
		next, ok := s.next()
		wrong := []greet.Piece{{Level: -1, Data: []byte{1}}, {Level: api.App, Data: []byte{1}}, {Level: next.Level, Data: []byte{1, 0xff, 0xff, 0xff}}}
		if ok {
			wrong = append(wrong, greet.Piece{Level: next.Level, Data: message(next.Data[0], nil)}, greet.Piece{Level: next.Level, Data: message(99, nil)})
		}
		for _, p := range wrong {
			m, same := s.machine(), s.machine()
			code := m.Hear(p.Level, p.Data)
			if code == 0 {
				t.Fatalf("Hear(%d, %x) = 0", p.Level, p.Data)
			}
			for _, q := range slices.Concat(piecesOf(s.server)[s.heard:], wrong) {
				checkHear(t, m, q.Level, q.Data, code)
				checkHear(t, m, q.Level, nil, code)
				checkOut(t, m, nil, nil)
			}
			if got, want := stateOf(m), stateOf(same); got != want {
				t.Errorf("after %d in %+v: %s; want %s", code, s, got, want)
			}
		}
	}
	// What was to be sent before stays so.
	m := greet.New(clientConfig())
	checkHear(t, m, api.App, []byte{0}, unexpected)
	checkOut(t, m, x.hello, nil)
}

// stateOf tells everything that can be asked.
func stateOf(m *greet.Machine) string {
	a, b, hand := m.Secrets(api.Handshake)
	c, d, app := m.Secrets(api.App)
	peer, met := m.Peer()
	return fmt.Sprintln(a, b, hand, c, d, app, peer, met, m.Done())
}

// wide returns the encoding of a length in size bytes, and the bytes.
func wide(p []byte, size int) []byte {
	n, _ := vint.Wide(uint64(len(p)), size)
	return append(n, p...)
}

// A server that rejects a Hello learns and says nothing.
func checkHello(t *testing.T, c greet.Config, p []byte, want uint64) {
	t.Helper()
	m := greet.New(c)
	checkHear(t, m, api.Initial, p, want)
	if want != 0 {
		checkState(t, m, nil, nil, nil, false)
		checkOut(t, m, nil, nil)
	}
}

func TestHearHelloOfWrongForm(t *testing.T) {
	c := serverConfig()
	good := unboundOf(clientConfig())
	random, id, params := good[:32], good[32:35], good[35:]
	long := vint.Text(pattern(65))
	for _, unbound := range [][]byte{
		random,
		random[:31],
		slices.Concat(random, id),
		slices.Concat(random, id, params[:1]),
		slices.Concat(random, id, params[:len(params)-1]),
		slices.Concat(random, id, params, []byte{0}),
		slices.Concat(random, id, params, params),
		slices.Concat(random, long, params),
		slices.Concat(random, wide(pattern(65), 8), params),
		slices.Concat(random, unhex("ffffffffffffffff"), params),
		slices.Concat(random, id, vint.Text(pattern(513))),
		slices.Concat(random, id, wide(pattern(513), 8)),
		slices.Concat(random, id, unhex("ffffffffffffffff")),
		slices.Concat(random, id, unhex("3f"), pattern(20)),
	} {
		checkHello(t, c, helloOf(c.Secret, unbound), badForm)
	}
	for n := range 64 {
		checkHello(t, c, message(hello, make([]byte, n)), badForm)
	}
	whole := helloOf(c.Secret, good)
	for n := range len(whole) - 4 {
		checkHello(t, c, message(hello, whole[4:4+n]), badForm)
	}
	checkHello(t, c, whole, 0)
}

// Lengths may have any encoding; the binder is over the bytes as they are.
func TestHearHelloOfAnyEncoding(t *testing.T) {
	for _, a := range []int{1, 2, 4, 8} {
		for _, b := range []int{1, 2, 4, 8} {
			client, server := clientConfig(), serverConfig()
			unbound := slices.Concat(client.Random[:], wide(client.Identity, a), wide(client.Params, b))
			x := sharedOf(server.Secret, helloOf(server.Secret, unbound), message(answer, server.Random[:]), message(terms, vint.Text(server.Params)))
			m := greet.New(server)
			checkHear(t, m, api.Initial, x.hello, 0)
			checkOut(t, m, x.answer, slices.Concat(x.terms, x.server))
			checkHear(t, m, api.Handshake, x.client, 0)
			checkState(t, m, &x.handshake, &x.app, client.Params, true)
		}
	}
}

// Texts of a Hello as long as they may be.
func TestHearLongestHello(t *testing.T) {
	client, server := clientConfig(), serverConfig()
	client.Identity, client.Params = pattern(64), pattern(512)
	server.Identity = pattern(64)
	checkHello(t, server, helloOf(server.Secret, unboundOf(client)), 0)
	wideHello := slices.Concat(client.Random[:], wide(client.Identity, 8), wide(client.Params, 8))
	checkHello(t, server, helloOf(server.Secret, wideHello), 0)
}

func TestHearHelloOfAnother(t *testing.T) {
	server := serverConfig()
	for _, id := range []string{"", "i", "I", "ie", "jd", "id2", "\x00id", string(pattern(64))} {
		client := clientConfig()
		client.Identity = []byte(id)
		checkHello(t, server, helloOf(server.Secret, unboundOf(client)), unknown)
	}
	nobody := serverConfig()
	nobody.Identity = nil
	checkHello(t, nobody, helloOf(server.Secret, unboundOf(clientConfig())), unknown)
}

// The form is checked before the identity, and that before the binder.
func TestHearHelloOrder(t *testing.T) {
	client, server := clientConfig(), serverConfig()
	client.Identity = []byte("another")
	unbound := unboundOf(client)
	checkHello(t, server, helloOf([]byte("wrong"), unbound), unknown)
	checkHello(t, server, helloOf([]byte("wrong"), append(bytes.Clone(unbound), 0)), badForm)
	checkHello(t, server, helloOf(server.Secret, append(bytes.Clone(unbound), 0)), badForm)
	checkHello(t, server, helloOf([]byte("wrong"), unboundOf(clientConfig())), badMAC)
	checkHello(t, server, message(0, []byte("neither form nor kind")), unexpected)
}

// Each byte of a Hello but its length is under the binder.
func TestHearChangedHello(t *testing.T) {
	x := sharedBy(clientConfig(), serverConfig())
	for i := range x.hello {
		for bit := range 8 {
			p := bytes.Clone(x.hello)
			p[i] ^= 1 << bit
			want := uint64(badMAC)
			switch {
			case i == 0:
				want = unexpected
			case i < 4: // the length
				continue
			case i == 36 || i == 39: // the lengths of the texts
				want = badForm
			case i == 37 || i == 38:
				want = unknown
			}
			checkHello(t, serverConfig(), p, want)
		}
	}
}

func TestHearOtherFormsOfTheServer(t *testing.T) {
	for n := range 70 {
		if n != 32 {
			checkHear(t, state{false, 0}.machine(), api.Initial, message(answer, make([]byte, n)), badForm)
			checkHear(t, state{false, 2}.machine(), api.Handshake, message(finished, make([]byte, n)), badForm)
			checkHear(t, state{true, 1}.machine(), api.Handshake, message(finished, make([]byte, n)), badForm)
		}
	}
	for _, body := range [][]byte{nil, {1}, {0, 0}, {2, 1}, {0x40}, {0x40, 1}, {0x40, 1, 2, 3}, {0x80, 0, 0}, wide(pattern(513), 2), wide(pattern(513), 8), vint.Text(pattern(600)), unhex("ffffffffffffffff")} {
		m := state{false, 1}.machine()
		checkHear(t, m, api.Handshake, message(terms, body), badForm)
		if p, ok := m.Peer(); ok || p != nil {
			t.Errorf("Peer = %x, %t", p, ok)
		}
	}
}

// The parameters of Terms may be empty or as long as they may be, in any encoding.
func TestHearTerms(t *testing.T) {
	for _, n := range []int{0, 1, 63, 64, 511, 512} {
		for _, size := range []int{1, 2, 4, 8} {
			if size == 1 && n > 63 {
				continue
			}
			client, server := clientConfig(), serverConfig()
			hello := helloOf(client.Secret, unboundOf(client))
			x := sharedOf(client.Secret, hello, message(answer, server.Random[:]), message(terms, wide(pattern(n), size)))
			m := greet.New(client)
			m.Out()
			checkHear(t, m, api.Initial, x.answer, 0)
			checkHear(t, m, api.Handshake, x.terms, 0)
			checkState(t, m, &x.handshake, nil, pattern(n), false)
			checkHear(t, m, api.Handshake, x.server, 0)
			checkState(t, m, &x.handshake, &x.app, pattern(n), true)
			checkOut(t, m, nil, x.client)
		}
	}
}

// A Finished is wrong after one bit of it was changed, and then there are no more secrets, nor an end.
func TestHearChangedFinished(t *testing.T) {
	x := sharedBy(clientConfig(), serverConfig())
	for i := range 8 * 32 {
		p := bytes.Clone(x.server)
		p[4+i/8] ^= 1 << (i % 8)
		m := state{false, 2}.machine()
		checkHear(t, m, api.Handshake, p, badMAC)
		checkState(t, m, &x.handshake, nil, serverConfig().Params, false)
		checkOut(t, m, nil, nil)

		p = bytes.Clone(x.client)
		p[4+i/8] ^= 1 << (i % 8)
		m = state{true, 1}.machine()
		checkHear(t, m, api.Handshake, p, badMAC)
		checkState(t, m, &x.handshake, &x.app, clientConfig().Params, false)
	}
}

// Each byte of Answer and Terms is under the server's Finished.
func TestHearChangedAnswerOrTerms(t *testing.T) {
	x := sharedBy(clientConfig(), serverConfig())
	for i := 4; i < len(x.answer); i++ {
		p := bytes.Clone(x.answer)
		p[i] ^= 1
		m := greet.New(clientConfig())
		checkHear(t, m, api.Initial, p, 0)
		checkHear(t, m, api.Handshake, slices.Concat(x.terms, x.server), badMAC)
	}
	for i := 5; i < len(x.terms); i++ {
		p := bytes.Clone(x.terms)
		p[i] ^= 1
		m := state{false, 1}.machine()
		checkHear(t, m, api.Handshake, slices.Concat(p, x.server), badMAC)
	}
}
