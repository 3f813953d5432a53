package world

import (
	"testing"

	"colonnade/api"
	"colonnade/item"
	"colonnade/word"
)

func ended(p []byte) stream {
	return stream{data: p, done: true}
}

func open(p []byte) stream {
	return stream{data: p}
}

// A stream has the objects of a group; it ends when an object of a larger group is sent.
func TestStreamOfGroup(t *testing.T) {
	b, x := feeding(t, far, 1)
	b.publish(x, "t", object(0, 0), object(0, 1), object(0, 5))
	b.checkStreams(open(groupBytes(5, object(0, 0), object(0, 1), object(0, 5))))
	b.publish(x, "t", object(2, 3))
	b.checkStreams(
		ended(groupBytes(5, object(0, 0), object(0, 1), object(0, 5))),
		open(groupBytes(5, object(2, 3))))
	b.publish(x, "t", object(2, 4), object(4, 0))
	b.checkStreams(
		ended(groupBytes(5, object(0, 0), object(0, 1), object(0, 5))),
		ended(groupBytes(5, object(2, 3), object(2, 4))),
		open(groupBytes(5, object(4, 0))))
}

// An object that is not after the last one of its group's stream begins another one, which goes on then.
func TestObjectBeforeLast(t *testing.T) {
	b, x := feeding(t, far, 1)
	b.publish(x, "t", object(1, 4), object(1, 2), object(1, 3), object(1, 6))
	b.checkStreams(
		ended(groupBytes(5, object(1, 4))),
		open(groupBytes(5, object(1, 2), object(1, 3), object(1, 6))))
}

// So does an object whose group's stream has ended, or whose group is smaller, without an end to the stream of the larger one.
func TestObjectOfEndedGroup(t *testing.T) {
	b, x := feeding(t, far, 1)
	b.publish(x, "t", object(1, 0), object(3, 0), object(1, 1), object(3, 1), object(2, 0), object(1, 2))
	b.checkStreams(
		ended(groupBytes(5, object(1, 0))),
		open(groupBytes(5, object(3, 0), object(3, 1))),
		ended(groupBytes(5, object(1, 1))),
		open(groupBytes(5, object(2, 0))),
		open(groupBytes(5, object(1, 2))))
}

// The stream of a group has one priority, so an object with another one can't go on in it.
func TestObjectOfOtherPriority(t *testing.T) {
	b, x := feeding(t, far, 1)
	first, second, third := object(1, 0), object(1, 1), object(1, 2)
	second.Priority, third.Priority = 9, 9
	b.publish(x, "t", first, second, third)
	b.checkStreams(ended(groupBytes(5, first)), open(groupBytes(5, second, third)))
}

// Each Subscribe has streams of its own, for its alias, with the objects that it requests.
func TestStreamsOfAliases(t *testing.T) {
	b, x := feeding(t, far, 1)
	b.say(word.Msg{Kind: word.Subscribe, Alias: 9, Name: []byte("t"), Order: 1, Start: at(1, 1), End: api.Place{Group: 2}})
	b.subscribe("other", 7, 0, 1)
	b.checkSaid(
		word.Msg{Kind: word.SubscribeOK, ID: 3},
		word.Msg{Kind: word.SubscribeError, ID: 5, Code: 4},
		word.Msg{Kind: word.MaxRequest, N: 51})
	b.publish(x, "t", object(1, 0), object(1, 1), object(2, 0), object(3, 0))
	b.checkStreams(
		ended(groupBytes(5, object(1, 0), object(1, 1))),
		ended(groupBytes(9, object(1, 1))),
		ended(groupBytes(5, object(2, 0))),
		open(groupBytes(9, object(2, 0))),
		open(groupBytes(5, object(3, 0))))
}

// A Gram is a datagram frame, and no part of any stream.
func TestGram(t *testing.T) {
	b, x := feeding(t, far, 1)
	o := object(3, 4)
	o.Gram = true
	b.publish(x, "t", object(1, 0), o, object(1, 1))
	b.checkStreams(open(groupBytes(5, object(1, 0), object(1, 1))))
	want, _ := item.Gram(5, o)
	if len(b.grams) != 1 || string(b.grams[0]) != string(want) {
		t.Fatalf("the datagrams are %x; want %x", b.grams, want)
	}
}

// The largest Gram that may be published fits, also with the largest numbers.
func TestLargestGram(t *testing.T) {
	b, x := announced(t, far)
	b.subscribe("t", api.MaxNum, 0, 1)
	o := api.Object{Place: at(api.MaxNum, api.MaxNum), Gram: true, Data: make([]byte, 900)}
	b.publish(x, "t", o)
	want, _ := item.Gram(api.MaxNum, o)
	if len(b.grams) != 1 || string(b.grams[0]) != string(want) {
		t.Fatalf("%d datagrams", len(b.grams))
	}
}

// losing makes all get lost that the port sends, for as long as something is published.
func (b *bench) losing(x *end, l ...api.Object) {
	b.t.Helper()
	b.lossy = func([]byte) bool { return true }
	b.publish(x, "t", l...)
	b.lossy = nil
}

// A group that is stale is reset, whether or not its stream has ended.
func TestStaleGroup(t *testing.T) {
	b, x := feeding(t, 2, 1)
	b.publish(x, "t", object(1, 0), object(2, 0), object(2, 1))
	b.losing(x, object(2, 2), object(3, 0), object(3, 1), object(1, 7), object(4, 0))
	// Relative to group 5, groups 1 and 2 are stale, 3 is not.
	b.losing(x, object(5, 0))
	b.rest()
	b.checkStreams(
		ended(groupBytes(5, object(1, 0))),
		stream{data: groupBytes(5, object(2, 0), object(2, 1)), reset: true},
		ended(groupBytes(5, object(3, 0), object(3, 1))),
		stream{reset: true},
		ended(groupBytes(5, object(4, 0))),
		open(groupBytes(5, object(5, 0))))
}

// An object of a group that is stale already is not sent.
func TestObjectOfStaleGroup(t *testing.T) {
	b, x := feeding(t, 2, 1)
	b.publish(x, "t", object(7, 0), object(4, 0), object(5, 0))
	b.checkStreams(open(groupBytes(5, object(7, 0))), open(groupBytes(5, object(5, 0))))
}

// With decreasing groups, none is ever stale.
func TestStaleGroupOfOtherOrder(t *testing.T) {
	b, x := feeding(t, 2, 2)
	b.losing(x, object(1, 0), object(9, 0))
	b.publish(x, "t", object(2, 0))
	b.rest()
	b.checkStreams(
		ended(groupBytes(5, object(1, 0))),
		open(groupBytes(5, object(9, 0))),
		open(groupBytes(5, object(2, 0))))
}

// Whether a group is stale depends on the objects of the same request.
func TestNewestOfEachRequest(t *testing.T) {
	b, x := feeding(t, 2, 1)
	b.say(word.Msg{Kind: word.Subscribe, Alias: 9, Name: []byte("t"), Order: 1, End: api.Place{Group: 4}})
	b.pump()
	b.losing(x, object(1, 0), object(9, 0), object(3, 0))
	b.rest()
	// Group 9 is none that the second request is for.
	b.checkStreams(
		stream{reset: true},
		ended(groupBytes(9, object(1, 0))),
		open(groupBytes(5, object(9, 0))),
		open(groupBytes(9, object(3, 0))))
}

// A Fetch has an answer of its own, on a stream of its own.
func TestAnswerToFetch(t *testing.T) {
	b, x := announced(t, 2)
	gram := object(4, 1)
	gram.Gram = true
	b.publish(x, "t", object(4, 0), object(0, 3), object(2, 1), gram, object(0, 1), object(9, 0))
	id := b.say(word.Msg{Kind: word.Fetch, Name: []byte("t"), Start: at(0, 2), End: at(4, 1)})
	b.pump()
	// In increasing order, no group is stale, and a Gram is one no more. Then one more request is permitted.
	b.checkSaid(word.Msg{Kind: word.FetchOK, ID: id}, word.Msg{Kind: word.MaxRequest, N: 51})
	b.checkStreams(ended(fetchBytes(id, object(0, 3), object(2, 1), object(4, 0), object(4, 1))))
	b.forget()
	id = b.say(word.Msg{Kind: word.Fetch, Name: []byte("t"), Start: at(5, 0), End: at(8, 9)})
	b.pump()
	b.checkSaid(word.Msg{Kind: word.FetchOK, ID: id}, word.Msg{Kind: word.MaxRequest, N: 52})
	b.checkStreams(ended(fetchBytes(id)))
	b.forget()
	id = b.say(word.Msg{Kind: word.Fetch, Name: []byte("other"), End: at(8, 9)})
	b.pump()
	b.checkSaid(word.Msg{Kind: word.FetchError, ID: id, Code: 4}, word.Msg{Kind: word.MaxRequest, N: 53})
	b.checkStreams()
}

// Some and Start tell the largest place of what was published, also of Grams.
func TestSubscribeOK(t *testing.T) {
	b, x := announced(t, far)
	b.subscribe("t", 1, 0, 1)
	b.checkSaid(word.Msg{Kind: word.SubscribeOK, ID: 1})
	b.publish(x, "t", object(3, 1), object(2, 8))
	b.subscribe("t", 2, 0, 1)
	b.checkSaid(word.Msg{Kind: word.SubscribeOK, ID: 3, Some: true, Start: at(3, 1)})
	gram := object(3, 2)
	gram.Gram = true
	b.publish(x, "t", gram)
	b.subscribe("t", 3, 0, 1)
	b.checkSaid(word.Msg{Kind: word.SubscribeOK, ID: 5, Some: true, Start: at(3, 2)})
}

// No more is sent for a request that is over.
func TestStop(t *testing.T) {
	b, x := feeding(t, far, 1)
	b.losing(x, object(1, 0), object(2, 0))
	b.say(word.Msg{Kind: word.Unsubscribe, ID: 1})
	b.rest()
	b.publish(x, "t", object(2, 1))
	b.checkStreams(stream{reset: true}, stream{reset: true})
	b.forget()
	// The alias may be used again.
	b.subscribe("t", 5, 0, 1)
	b.publish(x, "t", object(2, 2))
	b.checkStreams(open(groupBytes(5, object(2, 2))))
}

func TestStopOfFetch(t *testing.T) {
	b, x := announced(t, far)
	for i := range uint64(20) {
		b.publish(x, "t", large(0, i, 2000))
	}
	b.lossy = func([]byte) bool { return true }
	id := b.say(word.Msg{Kind: word.Fetch, Name: []byte("t"), End: at(9, 9)})
	b.pump()
	if n := b.p.waiting(); n < 10 {
		t.Fatalf("%d objects wait", n)
	}
	b.say(word.Msg{Kind: word.FetchCancel, ID: id})
	b.pump()
	b.lossy = nil
	b.rest()
	b.checkStreams(stream{reset: true})
	if len(b.p.flows) != 0 {
		t.Fatal("the answer goes on")
	}
}

// received returns how many bytes have come on the streams that begin with p.
func (b *bench) received(p []byte) int {
	n := 0
	for _, s := range b.streams {
		if len(s.data) >= len(p) && string(s.data[:len(p)]) == string(p) {
			n += len(s.data)
		}
	}
	return n
}

// checkFirst checks that of what was published and not sent yet the stream with one beginning is sent before that with the other one.
func (b *bench) checkFirst(first, second item.Head) {
	b.t.Helper()
	for _, data := range b.p.line.Send(b.now) {
		b.l.Receive(data, b.now)
	}
	b.take()
	p, _ := item.Begin(first)
	q, _ := item.Begin(second)
	if n, m := b.received(p), b.received(q); n < 5000 || m != 0 {
		b.t.Fatalf("%d bytes of %+v have come, and %d of %+v", n, first, m, second)
	}
}

// Streams have the ranks of their objects: by the priority of the request first, then by that of the object, then by the group and the order.
func TestRanks(t *testing.T) {
	publish := func(x *end, group uint64, priority byte) {
		for i := range uint64(7) {
			o := large(group, i, 2000)
			o.Priority = priority
			checkErrno(t, "publish", x.publish([]byte("t"), o), api.OK)
		}
	}
	b, x := announced(t, far)
	b.subscribe("t", 1, 7, 1)
	b.subscribe("t", 2, 3, 1)
	publish(x, 0, 0)
	b.checkFirst(item.Head{ID: 2}, item.Head{ID: 1})

	b, x = feeding(t, far, 1)
	publish(x, 0, 9)
	publish(x, 1, 8)
	b.checkFirst(item.Head{ID: 5, Group: 1, Priority: 8}, item.Head{ID: 5, Priority: 9})

	b, x = feeding(t, far, 1)
	publish(x, 1, 8)
	publish(x, 0, 8)
	b.checkFirst(item.Head{ID: 5, Priority: 8}, item.Head{ID: 5, Group: 1, Priority: 8})

	b, x = feeding(t, far, 2)
	publish(x, 0, 8)
	publish(x, 1, 8)
	b.checkFirst(item.Head{ID: 5, Group: 1, Priority: 8}, item.Head{ID: 5, Priority: 8})
}

// What waits goes in the order of the ranks, too.
func TestRanksOfWaiting(t *testing.T) {
	f := &flow{}
	for _, group := range []uint64{3, 1, 2, 1, 3, 0} {
		f.put(give(group, uint64(len(f.queue))))
	}
	var l []api.Place
	for _, g := range f.queue {
		l = append(l, g.Object.Place)
	}
	want := []api.Place{at(0, 5), at(1, 1), at(1, 3), at(2, 2), at(3, 0), at(3, 4)}
	for i := range want {
		if l[i] != want[i] {
			t.Fatalf("the queue is %v; want %v", l, want)
		}
	}
	low, high := &flow{}, &flow{}
	low.put(give(2, 0))
	high.put(give(1, 0))
	if foremost([]*flow{low, high}) != 1 || foremost([]*flow{high, low}) != 0 || foremost([]*flow{low, low}) != 0 {
		t.Fatal("the largest rank goes first")
	}
}
