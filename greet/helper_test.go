package greet_test

import (
	"bytes"
	"crypto/hkdf"
	"crypto/hmac"
	"crypto/sha256"
	"encoding/hex"
	"slices"
	"testing"

	"colonnade/api"
	"colonnade/greet"
	"colonnade/vint"
)

// The kinds of messages.
const (
	hello    = 1
	answer   = 2
	terms    = 8
	finished = 20
)

// The codes of wrong messages.
const (
	unexpected = api.CryptoError + 10
	badForm    = api.CryptoError + 50
	badMAC     = api.CryptoError + 51
	unknown    = api.CryptoError + 115
)

func unhex(s string) []byte {
	p, err := hex.DecodeString(s)
	if err != nil {
		panic(err)
	}
	return p
}

// pattern returns n bytes that differ from place to place.
func pattern(n int) []byte {
	p := make([]byte, n)
	for i := range p {
		p[i] = byte(i*7 + i/251 + 3)
	}
	return p
}

// clientConfig and serverConfig are two sides that share a secret.
func clientConfig() greet.Config {
	return greet.Config{Identity: []byte("id"), Secret: []byte("secret"), Params: []byte("the client's"), Random: [32]byte{1, 31: 2}}
}

func serverConfig() greet.Config {
	return greet.Config{Server: true, Identity: []byte("id"), Secret: []byte("secret"), Params: []byte("the server's"), Random: [32]byte{3, 31: 4}}
}

func message(kind byte, body []byte) []byte {
	n := len(body)
	return append([]byte{kind, byte(n >> 16), byte(n >> 8), byte(n)}, body...)
}

// The hashes and MACs of the library.
func sum(p []byte) []byte {
	s := sha256.Sum256(p)
	return s[:]
}

func macOf(key, p []byte) []byte {
	h := hmac.New(sha256.New, key)
	h.Write(p)
	return h.Sum(nil)
}

func extract(salt, key []byte) []byte {
	p, err := hkdf.Extract(sha256.New, key, salt)
	if err != nil {
		panic(err)
	}
	return p
}

func label(key []byte, name string, context []byte) []byte {
	name = "tls13 " + name
	info := slices.Concat([]byte{0, 32, byte(len(name))}, []byte(name), []byte{byte(len(context))}, context)
	p, err := hkdf.Expand(sha256.New, key, string(info), 32)
	if err != nil {
		panic(err)
	}
	return p
}

func finishedOf(secret, said []byte) []byte {
	return message(finished, macOf(label(secret, "finished", nil), sum(said)))
}

// helloOf returns the Hello with a body that ends before the binder.
func helloOf(secret, unbound []byte) []byte {
	p := message(hello, append(bytes.Clone(unbound), make([]byte, 32)...))
	p = p[:len(p)-32]
	key := label(extract(make([]byte, 32), secret), "ext binder", sum(nil))
	return append(p, macOf(label(key, "finished", nil), sum(p))...)
}

// unboundOf returns the body of a client's Hello before the binder.
func unboundOf(c greet.Config) []byte {
	return slices.Concat(c.Random[:], vint.Text(c.Identity), vint.Text(c.Params))
}

// shared is all that both sides of a handshake say, and what they share.
type shared struct {
	hello, answer, terms, server, client []byte // server and client are the Finished of each
	handshake, app                       [2][32]byte
}

// sharedOf works out a handshake of these messages.
func sharedOf(secret, hello, answer, terms []byte) shared {
	x := shared{hello: hello, answer: answer, terms: terms}
	early := extract(make([]byte, 32), secret)
	hand := extract(label(early, "derived", sum(nil)), make([]byte, 32))
	master := extract(label(hand, "derived", sum(nil)), make([]byte, 32))

	hash := sum(slices.Concat(hello, answer))
	client, server := label(hand, "c hs traffic", hash), label(hand, "s hs traffic", hash)
	x.handshake = [2][32]byte{[32]byte(client), [32]byte(server)}
	said := slices.Concat(hello, answer, terms)
	x.server = finishedOf(server, said)
	said = slices.Concat(said, x.server)
	x.client = finishedOf(client, said)
	hash = sum(said)
	x.app = [2][32]byte{[32]byte(label(master, "c ap traffic", hash)), [32]byte(label(master, "s ap traffic", hash))}
	return x
}

// sharedBy works out the handshake of two sides whose texts are not too long.
func sharedBy(client, server greet.Config) shared {
	return sharedOf(client.Secret, helloOf(client.Secret, unboundOf(client)), message(answer, server.Random[:]), message(terms, vint.Text(server.Params)))
}

func checkHear(t *testing.T, m *greet.Machine, level int, p []byte, want uint64) {
	t.Helper()
	if code := m.Hear(level, p); code != want {
		t.Fatalf("Hear(%d, %x) = %d; want %d", level, p, code, want)
	}
}

// checkOut checks what is sent at Initial and at Handshake.
func checkOut(t *testing.T, m *greet.Machine, initial, handshake []byte) {
	t.Helper()
	var want []greet.Piece
	if len(initial) > 0 {
		want = append(want, greet.Piece{Level: api.Initial, Data: initial})
	}
	if len(handshake) > 0 {
		want = append(want, greet.Piece{Level: api.Handshake, Data: handshake})
	}
	same := func(a, b greet.Piece) bool { return a.Level == b.Level && bytes.Equal(a.Data, b.Data) }
	if l := m.Out(); !slices.EqualFunc(l, want, same) {
		t.Fatalf("Out = %x; want %x", l, want)
	}
}

// checkSecrets checks the secrets of a level; there are none if want is nil.
func checkSecrets(t *testing.T, m *greet.Machine, level int, want *[2][32]byte) {
	t.Helper()
	var pair [2][32]byte
	if want != nil {
		pair = *want
	}
	client, server, ok := m.Secrets(level)
	if client != pair[0] || server != pair[1] || ok != (want != nil) {
		t.Fatalf("Secrets(%d) = %x, %x, %t; want %x, %t", level, client, server, ok, pair, want != nil)
	}
}

// checkState checks everything that can be asked; there are no secrets or parameters where they are nil.
func checkState(t *testing.T, m *greet.Machine, handshake, app *[2][32]byte, peer []byte, done bool) {
	t.Helper()
	for _, level := range []int{api.Initial, -1, 3, 1 << 40, -1 << 40} {
		checkSecrets(t, m, level, nil)
	}
	checkSecrets(t, m, api.Handshake, handshake)
	checkSecrets(t, m, api.App, app)
	if p, ok := m.Peer(); !bytes.Equal(p, peer) || ok != (peer != nil) {
		t.Fatalf("Peer = %x, %t; want %x", p, ok, peer)
	}
	if m.Done() != done {
		t.Fatalf("Done = %t", !done)
	}
}

// piecesOf returns what a side hears up to its end.
func piecesOf(server bool) []greet.Piece {
	x := sharedBy(clientConfig(), serverConfig())
	if server {
		return []greet.Piece{{Level: api.Initial, Data: x.hello}, {Level: api.Handshake, Data: x.client}}
	}
	return []greet.Piece{{Level: api.Initial, Data: x.answer}, {Level: api.Handshake, Data: x.terms}, {Level: api.Handshake, Data: x.server}}
}

// state is a side after some messages.
type state struct {
	server bool
	heard  int
}

// states are all states of both sides.
func states() []state {
	return []state{{false, 0}, {false, 1}, {false, 2}, {false, 3}, {true, 0}, {true, 1}, {true, 2}}
}

// machine returns a new side in that state, with nothing to be sent.
func (s state) machine() *greet.Machine {
	c := clientConfig()
	if s.server {
		c = serverConfig()
	}
	m := greet.New(c)
	for _, p := range piecesOf(s.server)[:s.heard] {
		m.Hear(p.Level, p.Data)
	}
	m.Out()
	return m
}

// next returns the message that is expected, or false if there is none.
func (s state) next() (greet.Piece, bool) {
	if l := piecesOf(s.server); s.heard < len(l) {
		return l[s.heard], true
	}
	return greet.Piece{Level: -1, Data: []byte{0}}, false
}
