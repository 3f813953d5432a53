package line_test

import (
	"bytes"
	"slices"
	"testing"

	"colonnade/api"
	"colonnade/frame"
	"colonnade/greet"
	"colonnade/head"
	"colonnade/line"
	"colonnade/parcel"
)

// The names of both sides, and the one that the client is given for the server at first.
var (
	clientName = [8]byte{'c', 'l', 'i', 'e', 'n', 't', 1, 2}
	serverName = [8]byte{'s', 'e', 'r', 'v', 'e', 'r', 3, 4}
	firstName  = [8]byte{'f', 'i', 'r', 's', 't', 5, 6, 7}
)

// permits are what both sides permit, unless a test says otherwise.
func permits() greet.Params {
	return greet.Params{Credit: 1 << 20, Window: 1 << 18, Bidi: 10, Uni: 10, Gram: 1000}
}

func clientConfig() line.Config {
	c := line.Config{Identity: []byte("id"), Secret: []byte("secret"), Name: clientName, Params: permits()}
	copy(c.Random[:], firstName[:])
	c.Random[31] = 9
	return c
}

func serverConfig() line.Config {
	return line.Config{Server: true, Identity: []byte("id"), Secret: []byte("secret"), Name: serverName, Random: [32]byte{31: 8}, Params: permits()}
}

// pattern returns n bytes that differ from place to place.
func pattern(n int) []byte {
	p := make([]byte, n)
	for i := range p {
		p[i] = byte(i*7 + i/251 + 3)
	}
	return p
}

// deliver lets a line receive datagrams.
func deliver(to *line.Line, l [][]byte, now uint64) {
	for _, p := range l {
		to.Receive(p, now)
	}
}

// round lets everything arrive that both have to say, a before b.
func round(a, b *line.Line, now uint64) {
	deliver(b, a.Send(now), now)
	deliver(a, b.Send(now), now)
}

// rest goes on with rounds of the same tick until nothing is said any more.
func rest(t *testing.T, a, b *line.Line, now uint64) {
	t.Helper()
	for range 300 {
		x, y := a.Send(now), b.Send(now)
		if len(x)+len(y) == 0 {
			return
		}
		deliver(b, x, now)
		deliver(a, y, now)
	}
	t.Fatal("there is no rest")
}

// joined returns a client and a server that are Up and at rest at the tick now.
func joined(t *testing.T, client, server line.Config, now uint64) (*line.Line, *line.Line) {
	t.Helper()
	a, b := line.New(client, now), line.New(server, now)
	rest(t, a, b, now)
	checkState(t, a, line.Up)
	checkState(t, b, line.Up)
	if !a.Idle() || !b.Idle() {
		t.Fatal("a side is not idle")
	}
	return a, b
}

// pair returns a client and a server that are Up and at rest at 0.
func pair(t *testing.T) (*line.Line, *line.Line) {
	t.Helper()
	return joined(t, clientConfig(), serverConfig(), 0)
}

func checkState(t *testing.T, l *line.Line, want int) {
	t.Helper()
	if s := l.State(); s != want {
		code, app, own := l.Code()
		t.Fatalf("State = %d (%x, %v, %v); want %d", s, code, app, own, want)
	}
}

// checkEnd checks the state of a line that ended, and its code.
func checkEnd(t *testing.T, l *line.Line, state int, code uint64, app bool) {
	t.Helper()
	checkState(t, l, state)
	c, x, own := l.Code()
	if c != code || x != app || own != (state == line.Closed) {
		t.Fatalf("Code = %x, %v, %v in state %d; want %x, %v", c, x, own, state, code, app)
	}
}

// checkOpen checks that a line was not closed.
func checkOpen(t *testing.T, l *line.Line, want int) {
	t.Helper()
	checkState(t, l, want)
	if c, app, own := l.Code(); c != 0 || app || own {
		t.Fatalf("Code = %x, %v, %v in state %d", c, app, own, want)
	}
}

func checkErrno(t *testing.T, what string, got, want api.Errno) {
	t.Helper()
	if got != want {
		t.Fatalf("%s: error %d; want %d", what, got, want)
	}
}

func checkDue(t *testing.T, l *line.Line, want uint64) {
	t.Helper()
	if at, ok := l.Due(); !ok || at != want {
		t.Fatalf("Due = %d, %v; want %d", at, ok, want)
	}
}

func checkNotDue(t *testing.T, l *line.Line) {
	t.Helper()
	if at, ok := l.Due(); ok || at != 0 {
		t.Fatalf("Due = %d, %v; want none", at, ok)
	}
}

// open opens a stream.
func open(t *testing.T, l *line.Line, uni bool) uint64 {
	t.Helper()
	id, e := l.Open(uni)
	checkErrno(t, "Open", e, api.OK)
	return id
}

// packet is one that was taken apart.
type packet struct {
	head   api.Head
	pn     uint64
	frames []api.Frame
	size   int
}

// kinds returns the kinds of the frames of packets, in order.
func kinds(l []packet) []uint64 {
	var k []uint64
	for _, p := range l {
		for _, f := range p.frames {
			k = append(k, f.Kind)
		}
	}
	return k
}

// all returns the frames of a kind of packets.
func all(l []packet, kind uint64) []api.Frame {
	var k []api.Frame
	for _, p := range l {
		for _, f := range p.frames {
			if f.Kind == kind {
				k = append(k, f)
			}
		}
	}
	return k
}

// hand is a side made by hand: it says exactly what a test says, and takes apart what a line says.
type hand struct {
	server  bool
	own     []byte // its name
	other   []byte // the name with which it addresses the other side
	machine *greet.Machine
	seal    [3]parcel.Keys
	open    [3]parcel.Keys
	next    [3]uint64
	came    [3]uint64 // the number after the largest one received
	heard   [3]int    // how much of the handshake was heard at each level
}

// machineOf returns the machine of a side.
func machineOf(c line.Config, params []byte) *greet.Machine {
	return greet.New(greet.Config{Server: c.Server, Identity: c.Identity, Secret: c.Secret, Params: params, Random: c.Random})
}

// newHand returns a side for which nothing was said yet.
func newHand(c line.Config) *hand {
	h := &hand{server: c.Server, own: c.Name[:], other: firstName[:], machine: machineOf(c, c.Params.Bytes())}
	client, server := parcel.First(firstName[:])
	h.draw(api.Initial, client, server)
	if c.Server {
		h.other = clientName[:]
	}
	return h
}

func (h *hand) draw(level int, client, server [32]byte) {
	if h.server {
		client, server = server, client
	}
	h.seal[level], h.open[level] = parcel.Draw(client), parcel.Draw(server)
}

// plain returns a packet that carries these bytes.
func (h *hand) plain(level int, pn uint64, plain []byte) []byte {
	x := api.Head{Long: true, Level: level, To: h.other, From: h.own}
	if level == api.App {
		x = api.Head{Level: level, To: h.other}
	}
	p, e := parcel.Close(h.seal[level], x, pn, 4, plain)
	if e != api.OK {
		panic(e)
	}
	h.next[level] = max(h.next[level], pn+1)
	return p
}

// says returns the next packet of a level, with these frames and enough padding.
func (h *hand) says(level int, l ...api.Frame) []byte {
	p, e := frame.Join(l...)
	if e != api.OK {
		panic(e)
	}
	return h.plain(level, h.next[level], p)
}

// hears takes apart what a line sends, and goes on with the handshake.
func (h *hand) hears(t *testing.T, l [][]byte) []packet {
	t.Helper()
	var packets []packet
	for _, p := range l {
		for len(p) > 0 {
			x, _, _, e := head.Read(p)
			checkErrno(t, "Read of a header", e, api.OK)
			from := h.came[x.Level]
			x, pn, plain, rest, e := parcel.Open(h.open[x.Level], p, from-min(from, 1), from > 0)
			checkErrno(t, "Open of a packet", e, api.OK)
			h.came[x.Level] = max(from, pn+1)
			frames, e := frame.All(plain)
			checkErrno(t, "All", e, api.OK)
			packets = append(packets, packet{x, pn, frames, len(p) - len(rest)})
			h.shake(t, x.Level, frames)
			p = rest
		}
	}
	return packets
}

// shake goes on with the handshake.
func (h *hand) shake(t *testing.T, level int, l []api.Frame) {
	t.Helper()
	for _, f := range l {
		if at := h.heard[level]; f.Kind == api.Crypto && f.Off <= uint64(at) && f.Off+uint64(len(f.Data)) > uint64(at) {
			p := f.Data[at-int(f.Off):]
			h.heard[level] += len(p)
			if code := h.machine.Hear(level, p); code != 0 {
				t.Fatalf("Hear of the handshake = %d", code)
			}
		}
	}
	for level := api.Handshake; level <= api.App; level++ {
		if client, server, ok := h.machine.Secrets(level); ok {
			h.draw(level, client, server)
		}
	}
}

// out returns what is to be said of the handshake as Crypto frames from the beginning of each level, so it must be called once for a level.
func (h *hand) out() map[int]api.Frame {
	l := make(map[int]api.Frame)
	for _, x := range h.machine.Out() {
		l[x.Level] = api.Frame{Kind: api.Crypto, Data: x.Data}
	}
	return l
}

// acks returns an Ack of these numbers.
func acks(l ...api.Range) api.Frame {
	return api.Frame{Kind: api.Ack, Ranges: l}
}

// upTo returns an Ack of all that was received at a level.
func (h *hand) upTo(level int) api.Frame {
	return acks(api.Range{From: 0, To: h.came[level] - 1})
}

// greeted returns a server that began at 0 and a client made by hand with which it is Up and at rest, both answering after that time.
func greeted(t *testing.T, server line.Config, after uint64) (*line.Line, *hand) {
	t.Helper()
	l, h := line.New(server, 0), newHand(clientConfig())
	l.Receive(h.says(api.Initial, h.out()[api.Initial]), 0)
	h.hears(t, l.Send(0))
	h.other = serverName[:]
	l.Receive(slices.Concat(h.says(api.Initial, h.upTo(api.Initial)), h.says(api.Handshake, h.out()[api.Handshake], h.upTo(api.Handshake))), after)
	h.hears(t, l.Send(after))
	checkState(t, l, line.Up)
	if !l.Idle() {
		t.Fatal("the server is not idle")
	}
	return l, h
}

// greetedClient returns a client that began at 0 and a server made by hand with which it is Up and at rest, twice that time later.
func greetedClient(t *testing.T, client line.Config, after uint64) (*line.Line, *hand) {
	t.Helper()
	l, h := line.New(client, 0), newHand(serverConfig())
	h.hears(t, l.Send(0))
	out := h.out()
	l.Receive(slices.Concat(h.says(api.Initial, out[api.Initial], h.upTo(api.Initial)), h.says(api.Handshake, out[api.Handshake])), after)
	h.hears(t, l.Send(after))
	l.Receive(h.says(api.Handshake, h.upTo(api.Handshake)), 2*after)
	checkState(t, l, line.Up)
	if !l.Idle() {
		t.Fatal("the client is not idle")
	}
	return l, h
}

// either returns a line that is Up, a server or a client, with the side made by hand.
func either(t *testing.T, server bool) (*line.Line, *hand) {
	t.Helper()
	if server {
		return greeted(t, serverConfig(), 0)
	}
	return greetedClient(t, clientConfig(), 0)
}

// checkKinds checks the kinds of frames that are sent.
func checkKinds(t *testing.T, what string, l []packet, want ...uint64) {
	t.Helper()
	if k := kinds(l); !slices.Equal(k, want) {
		t.Fatalf("%s: the kinds are %x; want %x", what, k, want)
	}
}

// same reports whether two frames are the same, nil and empty slices not told apart.
func same(a, b api.Frame) bool {
	return a.Kind == b.Kind && a.ID == b.ID && a.Off == b.Off && a.N == b.N && a.Code == b.Code && a.Fin == b.Fin &&
		bytes.Equal(a.Data, b.Data) && bytes.Equal(a.Token, b.Token) && slices.Equal(a.Ranges, b.Ranges)
}

func checkFrame(t *testing.T, what string, got, want api.Frame) {
	t.Helper()
	if !same(got, want) {
		t.Fatalf("%s: %v; want %v", what, got, want)
	}
}
