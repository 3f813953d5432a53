package world

import (
	"testing"

	"colonnade/api"
	"colonnade/hub"
	"colonnade/item"
	"colonnade/word"
)

// A side has at most 4096 objects waiting, whatever it has given to its line already; further ones are dropped.
func TestMostWaiting(t *testing.T) {
	b, x := feeding(t, far, 1)
	total := 5000
	for i := range total {
		checkErrno(t, "publish", x.publish([]byte("t"), large(0, uint64(i), 1000)), api.OK)
		if n := b.p.waiting(); n > 4096 {
			t.Fatalf("%d objects wait", n)
		}
	}
	if n := b.p.waiting(); n != 4096 {
		t.Fatalf("%d objects wait", n)
	}
	b.pump()
	b.publish(x, "t", large(0, 7000, 1000))
	if n := b.p.waiting(); n != 0 {
		t.Fatalf("%d objects still wait", n)
	}
	// The stream has room for 16 objects that don't wait, and those that came last were dropped.
	var l []api.Object
	for i := range uint64(4096 + 16) {
		l = append(l, large(0, i, 1000))
	}
	b.checkStreams(open(groupBytes(5, append(l, large(0, 7000, 1000))...)))
}

// What needs not wait is not dropped while other objects wait.
func TestDropOnlyWaiting(t *testing.T) {
	b, x := feeding(t, far, 1)
	for i := range uint64(4200) {
		checkErrno(t, "publish", x.publish([]byte("t"), large(0, i, 1000)), api.OK)
	}
	b.say(word.Msg{Kind: word.Subscribe, Alias: 9, Name: []byte("t"), Order: 1, Start: at(1, 0)})
	b.lossy = func([]byte) bool { return true }
	b.pump()
	b.lossy = nil
	if n := b.p.waiting(); n != 4096 {
		t.Fatalf("%d objects wait", n)
	}
	checkErrno(t, "publish", x.publish([]byte("t"), object(1, 0)), api.OK)
	if n := b.p.waiting(); n != 4096 {
		t.Fatalf("%d objects wait", n)
	}
	b.rest()
	if n := b.received(groupBytes(9, object(1, 0))); n == 0 {
		t.Fatal("the object for the other request was dropped")
	}
	if n := b.received(groupBytes(5, object(1, 0))); n != 0 {
		t.Fatal("an object too many was not dropped")
	}
}

// The end of an answer is no object, and is not dropped.
func TestEndOfLongAnswer(t *testing.T) {
	b, x := announced(t, far)
	for i := range uint64(6000) {
		checkErrno(t, "publish", x.publish([]byte("t"), large(0, i, 100)), api.OK)
	}
	id := b.say(word.Msg{Kind: word.Fetch, Name: []byte("t"), End: at(0, 9999)})
	for range 2 {
		for _, data := range b.l.Send(b.now) {
			b.p.receive(data, b.now)
		}
	}
	if n := b.p.waiting(); n != 4096 {
		t.Fatalf("%d objects wait", n)
	}
	b.pump()
	if l := b.streams; len(l) != 1 {
		t.Fatalf("%d streams", len(l))
	}
	for _, s := range b.streams {
		if !s.done || len(s.data) < 4096*100 || string(s.data[:2]) != string(fetchBytes(id)[:2]) {
			t.Fatalf("the answer has %d bytes, %v", len(s.data), s.done)
		}
	}
}

// Objects wait for streams, of which so many are permitted at a time; then streams that nothing goes on in are ended, the oldest ones.
func TestMoreRequestsThanStreams(t *testing.T) {
	b, x := announced(t, far)
	requests := uint64(40)
	for i := range requests {
		b.subscribe("t", 100+i, 0, 1)
	}
	for i := range uint64(5) {
		b.publish(x, "t", object(0, i))
	}
	count := 0
	for _, s := range b.streams {
		if !s.done {
			count++
		}
	}
	if count > api.MaxStreams {
		t.Fatalf("%d streams are open", count)
	}
	for i := range requests {
		total := 0
		begin := groupBytes(100+i, object(0, 0))[:5]
		for _, s := range b.streams {
			if string(s.data[:5]) == string(begin) {
				total += len(s.data) - 5
			}
		}
		if total != 5*4 {
			t.Fatalf("%d bytes have come for the request %d", total, i)
		}
	}
}

// No more streams are ended than are needed.
func TestOneRequestTooMany(t *testing.T) {
	b, x := announced(t, far)
	for i := range uint64(api.MaxStreams + 1) {
		b.subscribe("t", 100+i, 0, 1)
	}
	b.publish(x, "t", object(0, 0))
	var done []uint64
	for id, s := range b.streams {
		if s.done {
			done = append(done, id)
		}
	}
	if len(b.streams) != api.MaxStreams+1 || len(done) != 1 || done[0] != 2 {
		t.Fatalf("of %d streams, %d are ended", len(b.streams), done)
	}
}

// Groups that decrease leave many streams open.
func TestMoreGroupsThanStreams(t *testing.T) {
	b, x := feeding(t, far, 1)
	for i := range uint64(100) {
		checkErrno(t, "publish", x.publish([]byte("t"), object(200-i, 0)), api.OK)
	}
	b.pump()
	if len(b.streams) != 100 || b.p.waiting() != 0 {
		t.Fatalf("%d streams, and %d objects wait", len(b.streams), b.p.waiting())
	}
}

// Answers to Fetches wait for streams, too.
func TestMoreFetchesThanStreams(t *testing.T) {
	b, x := announced(t, far)
	b.publish(x, "t", object(0, 0))
	b.lossy = func([]byte) bool { return true }
	for range 45 {
		b.say(word.Msg{Kind: word.Fetch, Name: []byte("t"), End: at(1, 0)})
	}
	b.pump()
	if n := b.p.waiting(); n != 45-api.MaxStreams {
		t.Fatalf("%d objects wait", n)
	}
	b.lossy = nil
	b.rest()
	for id, s := range b.streams {
		if !s.done || len(s.data) != len(fetchBytes(1, object(0, 0))) && len(s.data) != len(fetchBytes(99, object(0, 0))) {
			t.Fatalf("the stream %d is %+v", id, s)
		}
	}
	if len(b.streams) != 45 || len(b.p.flows) != 0 {
		t.Fatalf("%d streams, and %d answers go on", len(b.streams), len(b.p.flows))
	}
}

// Messages wait as well, are in order, and go before objects.
func TestManyMessages(t *testing.T) {
	b, x := announced(t, far)
	b.subscribe("t", 5, 0, 1)
	b.forget()
	name := func(i int) []byte {
		return append(make([]byte, 30), byte(i>>8), byte(i))
	}
	var want []word.Msg
	for i := range 700 {
		m := word.Msg{Kind: word.Announce, Name: name(i)}
		checkErrno(t, "say", x.say(m), api.OK)
		m.ID = uint64(2 * (i + 1))
		want = append(want, m)
	}
	if len(b.p.messages) == 0 {
		t.Fatal("no message waits")
	}
	checkErrno(t, "publish", x.publish([]byte("t"), object(0, 0)), api.OK)
	if n := b.p.waiting(); n != 1 {
		t.Fatalf("%d objects wait", n)
	}
	b.rest()
	b.checkSaid(want...)
	b.checkStreams(open(groupBytes(5, object(0, 0))))
}

// Of a flow that waits, the groups that become stale are dropped.
func TestStaleWaiting(t *testing.T) {
	b, x := feeding(t, 2, 1)
	for i := range uint64(30) {
		checkErrno(t, "publish", x.publish([]byte("t"), large(1, i, 2000)), api.OK)
	}
	if n := b.p.waiting(); n < 20 {
		t.Fatalf("%d objects wait", n)
	}
	checkErrno(t, "publish", x.publish([]byte("t"), object(4, 0)), api.OK)
	if n := b.p.waiting(); n != 0 {
		t.Fatalf("%d objects wait", n)
	}
	b.rest()
	b.checkStreams(stream{reset: true}, open(groupBytes(5, object(4, 0))))
}

// Nothing is kept for a connection that is over.
func TestGiveAfterEnd(t *testing.T) {
	b, x := feeding(t, far, 1)
	b.p.shut()
	for i := range uint64(30) {
		checkErrno(t, "publish", x.publish([]byte("t"), large(1, i, 2000)), api.OK)
	}
	checkErrno(t, "say", x.say(word.Msg{Kind: word.Announce, Name: []byte("u")}), api.OK)
	b.p.give(hub.Give{Fetch: true, ID: 3, End: true})
	if len(b.p.flows)+len(b.p.messages)+b.p.waiting() != 0 {
		t.Fatal("something waits")
	}
}

// The stream of an answer that goes on is not ended for others.
func TestSlowAnswers(t *testing.T) {
	a, b := newRelayBench(t)
	a.say(word.Msg{Kind: word.FetchOK, ID: 3})
	for range 40 {
		b.say(word.Msg{Kind: word.Fetch, Name: []byte("t"), End: at(0, 1)})
	}
	b.pump()
	a.pump()
	answers := map[uint64]uint64{}
	for i := range uint64(41) {
		id := 3 + 2*i
		if i > 0 {
			a.say(word.Msg{Kind: word.FetchOK, ID: id})
		}
		// The source has too few streams as well.
		if i < api.MaxStreams {
			answers[id] = a.send(fetchBytes(id, object(0, 0)), false)
			a.pump()
			b.pump()
		}
	}
	a.pump()
	b.pump()
	for _, s := range b.streams {
		if s.done || s.reset {
			t.Fatalf("an answer ended as %+v", s)
		}
	}
	if len(b.streams) != api.MaxStreams {
		t.Fatalf("%d streams", len(b.streams))
	}
	for i := range uint64(41) {
		id := 3 + 2*i
		p := fetchBytes(id, object(0, 0), object(0, 1))
		if answer, ok := answers[id]; ok {
			p = p[len(fetchBytes(id, object(0, 0))):]
			checkErrno(t, "Write", a.l.Write(answer, p, true), api.OK)
		} else {
			a.send(p, true)
		}
		a.pump()
		b.pump()
	}
	for _, s := range b.streams {
		if want := len(fetchBytes(2, object(0, 0), object(0, 1))); !s.done || len(s.data) < want || len(s.data) > want+1 {
			t.Fatalf("an answer is %+v", s)
		}
	}
	if len(b.streams) != 41 {
		t.Fatalf("%d streams", len(b.streams))
	}
}

// Of the streams that nothing waits for, the oldest one is ended first.
func TestIdle(t *testing.T) {
	outlets := func(ids ...uint64) []*outlet {
		var l []*outlet
		for _, id := range ids {
			l = append(l, &outlet{id: id, head: item.Head{Group: id}})
		}
		return l
	}
	p := &port{flows: []*flow{
		{fetch: true, open: outlets(1)},
		{queue: []hub.Give{give(2, 0)}, open: outlets(2, 9)},
		{open: outlets(8, 7)},
		{queue: []hub.Give{give(3, 0)}, open: outlets(10)},
	}}
	if f, s := p.idle(); f != p.flows[2] || s.id != 7 {
		t.Fatalf("it is the stream %d", s.id)
	}
	p.flows = p.flows[:2]
	if f, s := p.idle(); f != p.flows[1] || s.id != 9 {
		t.Fatalf("it is the stream %d", s.id)
	}
	p.flows[1].open = outlets(2)
	if f, s := p.idle(); f != nil || s != nil {
		t.Fatalf("it is the stream %d", s.id)
	}
}
