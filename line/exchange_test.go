package line_test

import (
	"bytes"
	"maps"
	"math/rand/v2"
	"slices"
	"testing"

	"colonnade/api"
	"colonnade/line"
)

// If every datagram arrives, both are Up after 3 rounds, and stream 0, written by the client, is read by the server.
func TestRounds(t *testing.T) {
	a, b := line.New(clientConfig(), 0), line.New(serverConfig(), 0)
	for now := range uint64(3) {
		round(a, b, now)
	}
	checkOpen(t, a, line.Up)
	checkOpen(t, b, line.Up)
	if id := open(t, a, false); id != 0 {
		t.Fatalf("Open = %d", id)
	}
	checkErrno(t, "Write", a.Write(0, []byte("hello"), true), api.OK)
	round(a, b, 3)
	if l := b.Came(); !slices.Equal(l, []uint64{0}) {
		t.Fatalf("Came = %d", l)
	}
	p, done, code, e := b.Read(0, 99)
	if string(p) != "hello" || !done || code != 0 || e != api.OK {
		t.Fatalf("Read = %q, %v, %d, %d", p, done, code, e)
	}
	rest(t, a, b, 4)
	if !a.Idle() || !b.Idle() {
		t.Fatal("a side is not idle")
	}
}

// wire is the datagrams in flight in both directions, and what is done to them.
type wire struct {
	random *rand.Rand
	lines  [2]*line.Line
	flying [2][][]byte // to each
	bad    bool        // datagrams are lost, repeated, delayed, changed, and garbage arrives
	now    uint64
}

// bounded checks that no more is in flight than is permitted, and that datagrams are as many and as long as they may be.
func bounded(t *testing.T, l *line.Line, sent [][]byte) {
	t.Helper()
	flight, window, _ := l.Told()
	if flight > 2*window+3*api.MaxPacket {
		t.Fatalf("%d bytes are in flight, with a window of %d", flight, window)
	}
	if len(sent) > 16 {
		t.Fatalf("%d datagrams", len(sent))
	}
	for _, p := range sent {
		if len(p) == 0 || len(p) > api.MaxPacket {
			t.Fatalf("a datagram of %d bytes", len(p))
		}
	}
}

func (w *wire) send(t *testing.T) {
	t.Helper()
	for i, l := range w.lines {
		sent := l.Send(w.now)
		bounded(t, l, sent)
		w.flying[1-i] = append(w.flying[1-i], sent...)
	}
}

// garbage returns a datagram of which a packet at least is opened by no key: one that flew with a byte changed, cut, or any bytes.
func (w *wire) garbage(p []byte) []byte {
	p = bytes.Clone(p)
	switch w.random.IntN(3) {
	case 0:
		p[w.random.IntN(len(p))] ^= byte(1 + w.random.IntN(255))
	case 1:
		p = p[:len(p)-1-w.random.IntN(min(len(p), 16))]
	default:
		p = make([]byte, w.random.IntN(1300))
		for i := range p {
			p[i] = byte(w.random.Uint32())
		}
	}
	return p
}

// arrive lets some datagrams arrive at one side.
func (w *wire) arrive(t *testing.T, i int) {
	t.Helper()
	l := w.flying[i]
	w.flying[i] = nil
	for _, p := range l {
		fate := w.random.IntN(10)
		if !w.bad {
			fate = 9
		}
		switch fate {
		case 0, 1: // it is lost
		case 2: // it arrives, and once more later
			w.lines[i].Receive(p, w.now)
			w.flying[i] = append(w.flying[i], p)
		case 3, 4: // it is late
			w.flying[i] = append(w.flying[i], p)
		case 5:
			w.lines[i].Receive(w.garbage(p), w.now)
			w.flying[i] = append(w.flying[i], p)
		default:
			w.lines[i].Receive(p, w.now)
		}
		bounded(t, w.lines[i], nil)
	}
	if w.bad {
		w.random.Shuffle(len(w.flying[i]), func(x, y int) { w.flying[i][x], w.flying[i][y] = w.flying[i][y], w.flying[i][x] })
	}
}

// step lets something be sent and arrive; then time passes.
func (w *wire) step(t *testing.T) {
	t.Helper()
	w.send(t)
	w.arrive(t, 0)
	w.arrive(t, 1)
	for _, l := range w.lines {
		if s := l.State(); s != line.Greeting && s != line.Up {
			code, _, own := l.Code()
			t.Fatalf("a side is in state %d with code %x, %v", s, code, own)
		}
	}
	w.now += w.random.Uint64N(30)
}

// calm lets everything arrive and time pass up to what is due, until both are idle and nothing flies.
func (w *wire) calm(t *testing.T, each func()) {
	t.Helper()
	w.bad = false
	for range 3000 {
		w.send(t)
		if len(w.flying[0])+len(w.flying[1]) == 0 {
			if w.lines[0].Idle() && w.lines[1].Idle() {
				return
			}
			next := uint64(api.MaxNum)
			for _, l := range w.lines {
				if at, ok := l.Due(); ok {
					next = min(next, at)
				}
			}
			if next == api.MaxNum {
				t.Fatal("nothing is due, but a side is not idle")
			}
			w.now = max(w.now, next)
		}
		w.arrive(t, 0)
		w.arrive(t, 1)
		each()
	}
	t.Fatal("it does not become calm")
}

// reader reads streams at random and keeps what it read.
type reader struct {
	l    *line.Line
	got  map[uint64][]byte
	done map[uint64]bool
}

func newReader(l *line.Line) *reader {
	return &reader{l, make(map[uint64][]byte), make(map[uint64]bool)}
}

func (r *reader) read(t *testing.T, most int) {
	t.Helper()
	for _, id := range r.l.Came() {
		r.got[id] = nil
	}
	for _, id := range slices.Sorted(maps.Keys(r.got)) {
		if r.done[id] {
			continue
		}
		p, done, _, e := r.l.Read(id, most)
		checkErrno(t, "Read", e, api.OK)
		r.got[id] = append(r.got[id], p...)
		r.done[id] = done
	}
}

// writer writes streams at random and keeps what it wrote.
type writer struct {
	l     *line.Line
	wrote map[uint64][]byte
	ended map[uint64]bool
}

func newWriter(l *line.Line) *writer {
	return &writer{l, make(map[uint64][]byte), make(map[uint64]bool)}
}

func (x *writer) write(random *rand.Rand) {
	if random.IntN(4) == 0 && len(x.wrote) < 12 {
		if id, e := x.l.Open(random.IntN(2) == 0); e == api.OK {
			x.wrote[id] = nil
		}
	}
	for _, id := range slices.Sorted(maps.Keys(x.wrote)) {
		if x.ended[id] || len(x.wrote[id]) > 20000 {
			continue
		}
		p := pattern(random.IntN(3000))
		end := random.IntN(20) == 0
		if x.l.Write(id, p, end) == api.OK {
			x.wrote[id] = append(x.wrote[id], p...)
			x.ended[id] = end
		}
	}
}

func checkRead(t *testing.T, x *writer, r *reader) {
	t.Helper()
	for id, p := range x.wrote {
		if !bytes.Equal(r.got[id], p) || r.done[id] != x.ended[id] {
			t.Fatalf("stream %d: %d bytes were read, %v; want %d, %v", id, len(r.got[id]), r.done[id], len(p), x.ended[id])
		}
	}
}

// Whatever happens to datagrams, what is read is what was written, neither side closes, and in the end everything is read and both are idle.
func TestBadWire(t *testing.T) {
	for seed := range uint64(60) {
		random := rand.New(rand.NewPCG(seed, 14))
		client, server := clientConfig(), serverConfig()
		if seed%3 == 0 {
			client.Params.Window, client.Params.Credit, server.Params.Bidi, server.Params.Uni = 1500, 4000, 2, 1
		}
		a, b := line.New(client, 0), line.New(server, 0)
		w := &wire{random: random, lines: [2]*line.Line{a, b}, bad: true}
		writers := []*writer{newWriter(a), newWriter(b)}
		readers := []*reader{newReader(b), newReader(a)}
		said, heard := 0, 0
		for range 200 {
			w.step(t)
			for _, x := range writers {
				x.write(random)
			}
			if a.Gram([]byte{byte(said)}) == api.OK {
				said++
			}
			heard += len(b.Grams())
			for _, r := range readers {
				r.read(t, random.IntN(2000))
			}
		}
		if heard > said {
			t.Fatalf("%d datagram frames were received, %d sent", heard, said)
		}
		w.calm(t, func() {
			for _, r := range readers {
				r.read(t, 9999)
			}
		})
		checkOpen(t, a, line.Up)
		checkOpen(t, b, line.Up)
		checkRead(t, writers[0], readers[0])
		checkRead(t, writers[1], readers[1])
	}
}
