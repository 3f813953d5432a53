package greet_test

import (
	"bytes"
	"math/rand/v2"
	"testing"

	"colonnade/api"
	"colonnade/greet"
)

// tell makes one side hear what the other one has to send, in pieces that cut chooses, and returns the last code.
func tell(from, to *greet.Machine, cut func(n int) int) uint64 {
	var code uint64
	for _, p := range from.Out() {
		for len(p.Data) > 0 {
			n := cut(len(p.Data))
			code = to.Hear(p.Level, p.Data[:n])
			p.Data = p.Data[n:]
		}
	}
	return code
}

// exchange makes both sides hear each other, more often than they have to, and returns the codes of the client and the server.
func exchange(a, b *greet.Machine, cut func(n int) int) (uint64, uint64) {
	var codeA, codeB uint64
	for range 4 {
		codeB = max(codeB, tell(a, b, cut))
		codeA = max(codeA, tell(b, a, cut))
	}
	return codeA, codeB
}

func whole(n int) int { return n }

func single(int) int { return 1 }

func checkDone(t *testing.T, a, b *greet.Machine, x shared, client, server []byte) {
	t.Helper()
	checkState(t, a, &x.handshake, &x.app, server, true)
	checkState(t, b, &x.handshake, &x.app, client, true)
}

// The client has 1 piece at Initial, then the server 2, then the client 1 at Handshake.
func TestPieces(t *testing.T) {
	a, b := greet.New(clientConfig()), greet.New(serverConfig())
	turns := [][]int{{api.Initial}, {api.Initial, api.Handshake}, {api.Handshake}, nil}
	for i, levels := range turns {
		from, to := a, b
		if i%2 == 1 {
			from, to = b, a
		}
		l := from.Out()
		if len(l) != len(levels) {
			t.Fatalf("turn %d: %d pieces", i, len(l))
		}
		for j, p := range l {
			if p.Level != levels[j] {
				t.Fatalf("turn %d: level %d; want %d", i, p.Level, levels[j])
			}
			checkHear(t, to, p.Level, p.Data, 0)
		}
	}
	checkDone(t, a, b, sharedBy(clientConfig(), serverConfig()), clientConfig().Params, serverConfig().Params)
}

// What was not asked for yet comes all at once, the lower level first.
func TestOutLate(t *testing.T) {
	x := sharedBy(clientConfig(), serverConfig())
	m := greet.New(clientConfig())
	checkHear(t, m, api.Initial, x.answer, 0)
	checkHear(t, m, api.Handshake, append(bytes.Clone(x.terms), x.server...), 0)
	checkOut(t, m, x.hello, x.client)
	checkOut(t, m, nil, nil)

	m = greet.New(serverConfig())
	checkHear(t, m, api.Initial, x.hello, 0)
	checkHear(t, m, api.Handshake, x.client, 0)
	checkState(t, m, &x.handshake, &x.app, clientConfig().Params, true)
	checkOut(t, m, x.answer, append(bytes.Clone(x.terms), x.server...))
}

// Nothing is answered before the last byte of a message is there.
func TestOutEarly(t *testing.T) {
	x := sharedBy(clientConfig(), serverConfig())
	a, b := greet.New(clientConfig()), greet.New(serverConfig())
	a.Out()
	n := len(x.hello) - 1
	checkHear(t, b, api.Initial, x.hello[:n], 0)
	checkState(t, b, nil, nil, nil, false)
	checkOut(t, b, nil, nil)
	checkHear(t, b, api.Initial, x.hello[n:], 0)

	checkHear(t, a, api.Initial, x.answer[:35], 0)
	checkState(t, a, nil, nil, nil, false)
	checkHear(t, a, api.Initial, x.answer[35:], 0)
	n = len(x.terms) - 1
	checkHear(t, a, api.Handshake, x.terms[:n], 0)
	checkState(t, a, &x.handshake, nil, nil, false)
	checkHear(t, a, api.Handshake, append(x.terms[n:], x.server[:35]...), 0)
	checkState(t, a, &x.handshake, nil, serverConfig().Params, false)
	checkOut(t, a, nil, nil)
	checkHear(t, a, api.Handshake, x.server[35:], 0)
	checkOut(t, a, nil, x.client)

	checkHear(t, b, api.Handshake, x.client[:35], 0)
	checkState(t, b, &x.handshake, &x.app, clientConfig().Params, false)
	checkHear(t, b, api.Handshake, x.client[35:], 0)
	checkDone(t, a, b, x, clientConfig().Params, serverConfig().Params)
}

// In any pieces, with texts of any length.
func TestExchange(t *testing.T) {
	random := rand.New(rand.NewPCG(2, 13))
	few := func(n int) int { return 1 + random.IntN(min(n, 50)) }
	lengths := []int{0, 1, 2, 63, 64}
	for i := range 400 {
		var client, server greet.Config
		client.Identity = pattern(lengths[random.IntN(len(lengths))])
		client.Secret = pattern(random.IntN(200))
		server = client
		server.Server = true
		client.Params, server.Params = pattern(random.IntN(513)), pattern(random.IntN(513))
		client.Random, server.Random = [32]byte{byte(i)}, [32]byte{byte(i / 2)}
		for _, cut := range []func(int) int{whole, single, few} {
			a, b := greet.New(client), greet.New(server)
			if x, y := exchange(a, b, cut); x != 0 || y != 0 {
				t.Fatalf("the codes are %d and %d", x, y)
			}
			checkDone(t, a, b, sharedBy(client, server), client.Params, server.Params)
		}
	}
}

// Only the first 64 bytes of an identity and 512 of parameters are used; a secret is used as it is.
func TestLongTexts(t *testing.T) {
	client, server := clientConfig(), serverConfig()
	client.Identity, server.Identity = append(pattern(64), "client"...), append(pattern(64), "server"...)
	client.Params, server.Params = pattern(513), pattern(100000)
	client.Secret, server.Secret = pattern(100000), pattern(100000)
	a, b := greet.New(client), greet.New(server)
	if x, y := exchange(a, b, whole); x != 0 || y != 0 {
		t.Fatalf("the codes are %d and %d", x, y)
	}
	client.Identity, client.Params, server.Params = pattern(64), pattern(512), pattern(512)
	checkDone(t, a, b, sharedBy(client, server), pattern(512), pattern(512))

	server.Secret = pattern(99999)
	b = greet.New(server)
	if _, y := exchange(greet.New(client), b, whole); y != badMAC {
		t.Errorf("the code is %d", y)
	}
}

// Sides with different secrets, or different identities, are never done.
func TestExchangeOfStrangers(t *testing.T) {
	secrets := [][]byte{nil, {1}, []byte("secret"), []byte("secres"), []byte("Secret"), []byte("secret1"), pattern(64), pattern(65), pattern(200)}
	for i, s := range secrets {
		for j, other := range secrets {
			if i == j {
				continue
			}
			client, server := clientConfig(), serverConfig()
			client.Secret, server.Secret = s, other
			a, b := greet.New(client), greet.New(server)
			if x, y := exchange(a, b, single); x != 0 || y != badMAC {
				t.Fatalf("the codes are %d and %d", x, y)
			}
			checkState(t, a, nil, nil, nil, false)
			checkState(t, b, nil, nil, nil, false)
		}
	}
	client := clientConfig()
	client.Identity = []byte("di")
	a, b := greet.New(client), greet.New(serverConfig())
	if _, y := exchange(a, b, single); y != unknown || a.Done() || b.Done() {
		t.Fatalf("the code is %d", y)
	}
}

// A client does not believe a server that has another secret, whatever it answers; nor does a server a client that only has its Hello.
func TestExchangeWithAnImpostor(t *testing.T) {
	client, server := clientConfig(), serverConfig()
	x := sharedBy(client, server)
	wrong := sharedOf([]byte("wrong"), x.hello, x.answer, x.terms)
	m := state{false, 2}.machine()
	checkHear(t, m, api.Handshake, wrong.server, badMAC)
	checkState(t, m, &x.handshake, nil, server.Params, false)

	m = state{true, 1}.machine()
	checkHear(t, m, api.Handshake, wrong.client, badMAC)
	checkState(t, m, &x.handshake, &x.app, client.Params, false)
}

// Two of the same side do not greet each other.
func TestExchangeOfTheSameSide(t *testing.T) {
	a, b := greet.New(clientConfig()), greet.New(clientConfig())
	if x, y := exchange(a, b, whole); x != unexpected || y != unexpected || a.Done() || b.Done() {
		t.Errorf("the codes are %d and %d", x, y)
	}
	a, b = greet.New(serverConfig()), greet.New(serverConfig())
	if x, y := exchange(a, b, whole); x != 0 || y != 0 || a.Done() || b.Done() {
		t.Errorf("the codes are %d and %d", x, y)
	}
}

// All secrets are different, and each depends on both randoms.
func TestSecretsDiffer(t *testing.T) {
	seen := map[[32]byte]bool{}
	client, server := clientConfig(), serverConfig()
	for i := range 4 {
		client.Random[31], server.Random[31] = byte(i%2), byte(i/2)
		a, b := greet.New(client), greet.New(server)
		exchange(a, b, whole)
		for _, level := range []int{api.Handshake, api.App} {
			x, y, _ := a.Secrets(level)
			if seen[x] || seen[y] || x == y {
				t.Fatal("a secret comes twice")
			}
			seen[x], seen[y] = true, true
		}
	}
}
