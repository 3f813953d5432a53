package world

import (
	"bytes"
	"maps"
	"slices"
	"testing"

	"colonnade/api"
	"colonnade/hub"
	"colonnade/item"
	"colonnade/line"
	"colonnade/talk"
	"colonnade/turn"
	"colonnade/word"
)

// far is a window in which no group of a test becomes stale.
const far = 1 << 40

// bench is a port with the other side made by hand: a line whose streams a test writes and reads itself, with a session.
type bench struct {
	t       *testing.T
	p       *port
	l       *line.Line
	s       *talk.Session
	now     uint64
	lossy   func(data []byte) bool // whether a datagram of the port is lost
	heard   []byte
	said    []word.Msg // what the node has said
	streams map[uint64]*stream
	grams   [][]byte
	control uint64
}

// stream is what has come on a stream of objects.
type stream struct {
	data  []byte
	done  bool
	reset bool
}

// newBench returns a port of a node, with both sides Up and their Setups exchanged. The node permits lets requests, and the other side may.
func newBench(t *testing.T, n node, number uint64, server bool, late, lets, may uint64) *bench {
	t.Helper()
	b := &bench{
		t: t, p: newPort(n, number, server, late), s: talk.New(!server, may), streams: map[uint64]*stream{},
		l: line.New(lineConfig(number, !server), 0),
	}
	n.join(b.p, lets)
	b.pump()
	if server {
		id, e := b.l.Open(false)
		if e != api.OK || id != control {
			t.Fatalf("Open = %d, %d", id, e)
		}
	}
	b.collect()
	b.pump()
	if !b.s.Up() || b.l.State() != line.Up || b.p.line.State() != line.Up {
		t.Fatal("not Up")
	}
	b.forget()
	return b
}

// newEndBench returns an end whose hub is made by hand.
func newEndBench(t *testing.T, late uint64) (*bench, *end) {
	t.Helper()
	x := newEnd()
	return newBench(t, x, 0, false, late, 50, 1000), x
}

// pump lets all arrive and be read, until nothing is sent any more.
func (b *bench) pump() {
	b.t.Helper()
	for range 3000 {
		out, in := b.p.line.Send(b.now), b.l.Send(b.now)
		if len(out)+len(in) == 0 {
			return
		}
		for _, data := range out {
			if b.lossy == nil || !b.lossy(data) {
				b.l.Receive(data, b.now)
			}
		}
		b.take()
		for _, data := range in {
			b.p.receive(data, b.now)
		}
	}
	b.t.Fatal("there is no rest")
}

// rest lets time pass until nothing is due.
func (b *bench) rest() {
	b.t.Helper()
	for range 1000 {
		b.pump()
		next := uint64(api.MaxNum)
		for _, l := range []*line.Line{b.p.line, b.l} {
			if at, ok := l.Due(); ok {
				next = min(next, at)
			}
		}
		if next == api.MaxNum {
			return
		}
		b.now = max(b.now, next)
	}
	b.t.Fatal("there is no end")
}

// take reads all that has come at the line.
func (b *bench) take() {
	b.t.Helper()
	for _, id := range b.l.Came() {
		if id != control {
			b.streams[id] = &stream{}
		}
	}
	for _, id := range slices.Sorted(maps.Keys(b.streams)) {
		s := b.streams[id]
		for !s.done && !s.reset {
			p, done, _, e := b.l.Read(id, 9999)
			s.data, s.done, s.reset = append(s.data, p...), done, e == api.ErrClosed
			if len(p) == 0 {
				break
			}
		}
	}
	b.grams = append(b.grams, b.l.Grams()...)
	p, _, _, _ := b.l.Read(control, 99999)
	b.heard = append(b.heard, p...)
	for {
		m, rest, e := word.Read(b.heard)
		if e != api.OK {
			return
		}
		b.heard = rest
		b.said = append(b.said, m)
		b.s.Hear(m)
		b.collect()
	}
}

// collect writes what the session sends by itself.
func (b *bench) collect() {
	for _, m := range b.s.Out() {
		b.write(m)
	}
}

func (b *bench) write(m word.Msg) {
	b.t.Helper()
	p, e := word.Bytes(m)
	if e != api.OK || b.l.Write(control, p, false) != api.OK {
		b.t.Fatalf("%+v can't be written", m)
	}
}

// say says a message, and returns the ID with which it is said.
func (b *bench) say(m word.Msg) uint64 {
	b.t.Helper()
	m, e := b.s.Say(m)
	if e != api.OK {
		b.t.Fatalf("%+v can't be said: %d", m, e)
	}
	b.write(m)
	b.collect()
	return m.ID
}

// send opens a stream and writes p to it.
func (b *bench) send(p []byte, end bool) uint64 {
	b.t.Helper()
	id, e := b.l.Open(true)
	if e != api.OK || b.l.Write(id, p, end) != api.OK {
		b.t.Fatalf("nothing can be sent: %d", e)
	}
	return id
}

// forget drops what was received.
func (b *bench) forget() {
	b.said, b.grams = nil, nil
	clear(b.streams)
}

// subscribe makes the other side ask the node for all of a track, and returns the ID of the request.
func (b *bench) subscribe(track string, alias uint64, priority, order byte) uint64 {
	b.t.Helper()
	id := b.say(word.Msg{Kind: word.Subscribe, Alias: alias, Name: []byte(track), Priority: priority, Order: order})
	b.pump()
	return id
}

// checkSaid checks what the node has said since the last time.
func (b *bench) checkSaid(want ...word.Msg) {
	b.t.Helper()
	same := func(m, n word.Msg) bool {
		p, _ := word.Bytes(m)
		q, _ := word.Bytes(n)
		return bytes.Equal(p, q)
	}
	if !slices.EqualFunc(b.said, want, same) {
		b.t.Fatalf("the node said\n%+v\nwant\n%+v", b.said, want)
	}
	b.said = nil
}

// checkStreams checks all streams of objects that came, in the order in which they were opened.
func (b *bench) checkStreams(want ...stream) {
	b.t.Helper()
	var l []stream
	for _, id := range slices.Sorted(maps.Keys(b.streams)) {
		l = append(l, *b.streams[id])
	}
	same := func(s, o stream) bool { return bytes.Equal(s.data, o.data) && s.done == o.done && s.reset == o.reset }
	if !slices.EqualFunc(l, want, same) {
		b.t.Fatalf("the streams are\n%+v\nwant\n%+v", l, want)
	}
}

// checkClosed checks that the port has closed the connection with a code, and that the other side knows it.
func (b *bench) checkClosed(want uint64) {
	b.t.Helper()
	code, app, _ := b.l.Code()
	if b.p.line.State() != line.Closed || b.l.State() != line.Gone || code != want || !app || !b.p.over {
		b.t.Fatalf("the states are %d and %d, with the code %x, %v; want %x", b.p.line.State(), b.l.State(), code, app, want)
	}
}

func checkErrno(t *testing.T, what string, got, want api.Errno) {
	t.Helper()
	if got != want {
		t.Fatalf("%s: error %d; want %d", what, got, want)
	}
}

func at(group, number uint64) api.Place {
	return api.Place{Group: group, Object: number}
}

// object returns an object of which priority and data tell the place.
func object(group, number uint64) api.Object {
	return api.Object{Place: at(group, number), Priority: byte(group + 1), Data: []byte{byte(group), byte(number)}}
}

// large returns an object of so many bytes.
func large(group, number uint64, size int) api.Object {
	return api.Object{Place: at(group, number), Data: make([]byte, size)}
}

// groupBytes is the stream of objects of one group.
func groupBytes(alias uint64, l ...api.Object) []byte {
	return streamBytes(item.Head{ID: alias, Group: l[0].Group, Priority: l[0].Priority}, l...)
}

func fetchBytes(id uint64, l ...api.Object) []byte {
	return streamBytes(item.Head{Fetch: true, ID: id}, l...)
}

func streamBytes(h item.Head, l ...api.Object) []byte {
	p, e := item.Begin(h)
	for _, o := range l {
		next, e2 := item.Next(h, o)
		p, e = append(p, next...), max(e, e2)
	}
	if e != api.OK {
		panic(e)
	}
	return p
}

// publish makes an end publish objects, each of which is sent before the next one.
func (b *bench) publish(x *end, track string, l ...api.Object) {
	b.t.Helper()
	for _, o := range l {
		checkErrno(b.t, "publish", x.publish([]byte(track), o), api.OK)
		b.pump()
	}
}

// announced returns an end that announces t, which the hub made by hand has granted.
func announced(t *testing.T, late uint64) (*bench, *end) {
	t.Helper()
	b, x := newEndBench(t, late)
	checkErrno(t, "say", x.say(word.Msg{Kind: word.Announce, Name: []byte("t")}), api.OK)
	b.pump()
	b.checkSaid(word.Msg{Kind: word.Announce, Name: []byte("t")})
	b.say(word.Msg{Kind: word.AnnounceOK})
	b.pump()
	return b, x
}

// feeding returns an end that announces t, with a granted Subscribe of its hub for it, with the ID 1 and the alias 5.
func feeding(t *testing.T, late uint64, order byte) (*bench, *end) {
	t.Helper()
	b, x := announced(t, late)
	if id := b.subscribe("t", 5, 0, order); id != 1 {
		t.Fatalf("the ID is %d", id)
	}
	b.checkSaid(word.Msg{Kind: word.SubscribeOK, ID: 1})
	return b, x
}

// give returns what is given for an object of a Subscribe.
func give(group, number uint64) hub.Give {
	return hub.Give{ID: 1, Alias: 5, Object: object(group, number), Rank: turn.Rank(0, 0, 1, group)}
}
