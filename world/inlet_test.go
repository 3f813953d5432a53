package world

import (
	"bytes"
	"slices"
	"testing"

	"colonnade/api"
	"colonnade/hub"
	"colonnade/item"
	"colonnade/talk"
	"colonnade/word"
)

// gots checks what an end received.
func gots(t *testing.T, x *end, want ...Got) {
	t.Helper()
	same := func(a, b Got) bool {
		return a.ID == b.ID && a.Fetch == b.Fetch && bytes.Equal(a.Track, b.Track) && a.End == b.End &&
			a.Object.Place == b.Object.Place && a.Object.Priority == b.Object.Priority && a.Object.Gram == b.Object.Gram && bytes.Equal(a.Object.Data, b.Object.Data)
	}
	if !slices.EqualFunc(x.got, want, same) {
		t.Fatalf("the end got\n%+v\nwant\n%+v", x.got, want)
	}
}

func received(id uint64, o api.Object) Got {
	return Got{ID: id, Track: []byte("t"), Object: o}
}

// answered is what an end receives for a Fetch.
func answered(id uint64, o api.Object) Got {
	return Got{ID: id, Fetch: true, Track: []byte("t"), Object: o}
}

func endOf(id uint64) Got {
	return Got{ID: id, Fetch: true, Track: []byte("t"), End: true}
}

// asking returns an end with a Subscribe for t, with the ID 0 and the alias 0, and a Fetch with the ID 2, which both wait.
func asking(t *testing.T) (*bench, *end) {
	t.Helper()
	b, x := newEndBench(t, far)
	checkErrno(t, "subscribe", x.subscribe([]byte("t"), word.Msg{Order: 1, Start: at(1, 1)}), api.OK)
	checkErrno(t, "fetch", x.fetch([]byte("t"), word.Msg{Start: at(1, 1), End: at(2, 2)}), api.OK)
	b.pump()
	b.checkSaid(
		word.Msg{Kind: word.Subscribe, Name: []byte("t"), Order: 1, Start: at(1, 1)},
		word.Msg{Kind: word.Fetch, ID: 2, Name: []byte("t"), Start: at(1, 1), End: at(2, 2)})
	return b, x
}

// serving returns an end whose requests are granted.
func serving(t *testing.T) (*bench, *end) {
	t.Helper()
	b, x := asking(t)
	b.say(word.Msg{Kind: word.SubscribeOK})
	b.say(word.Msg{Kind: word.FetchOK, ID: 2})
	b.pump()
	return b, x
}

func TestIntake(t *testing.T) {
	b, x := serving(t)
	b.send(groupBytes(0, object(1, 1), object(1, 2)), false)
	b.pump()
	b.send(fetchBytes(2, object(1, 2), object(2, 2)), false)
	b.pump()
	b.send(groupBytes(0, object(2, 7)), true)
	b.pump()
	gots(t, x,
		received(0, object(1, 1)), received(0, object(1, 2)),
		answered(2, object(1, 2)), answered(2, object(2, 2)),
		received(0, object(2, 7)))
}

// A stream may come in any pieces; only whole objects are received.
func TestIntakeInPieces(t *testing.T) {
	b, x := serving(t)
	p := fetchBytes(2, object(1, 1), object(1, 2))
	id, _ := b.l.Open(true)
	for i := range p {
		b.l.Write(id, p[i:i+1], false)
		b.pump()
	}
	gots(t, x, answered(2, object(1, 1)), answered(2, object(1, 2)))
	b.l.Write(id, nil, true)
	b.pump()
	gots(t, x, answered(2, object(1, 1)), answered(2, object(1, 2)), endOf(2))
	if a, _ := x.talk.Find(2); a.State != talk.Over {
		t.Fatalf("the Fetch is in state %d after its end", a.State)
	}
}

// All that has come is read, also if it is much at once, as the first of it comes last.
func TestIntakeInReverse(t *testing.T) {
	b, x := serving(t)
	var l []api.Object
	var want []Got
	for i := range uint64(10) {
		l = append(l, large(1, 1+i, 1000))
		want = append(want, received(0, l[i]))
	}
	b.send(groupBytes(0, l...), true)
	datagrams := b.l.Send(b.now)
	slices.Reverse(datagrams)
	for _, data := range datagrams {
		gots(t, x)
		b.p.receive(data, b.now)
	}
	gots(t, x, want...)
}

// What was not requested is not received, nor is anything twice for one request.
func TestIntakeOfOthers(t *testing.T) {
	b, x := serving(t)
	b.send(groupBytes(0, object(1, 0), object(1, 1)), false)
	b.send(groupBytes(0, object(1, 1), object(1, 2)), true)
	b.send(groupBytes(0, object(0, 9)), true)
	b.send(groupBytes(3, object(1, 3)), true)
	b.send(fetchBytes(2, object(1, 0), object(1, 1), object(2, 2), object(2, 3)), true)
	b.send(fetchBytes(0, object(1, 4)), true)
	b.send(fetchBytes(4, object(1, 1)), true)
	b.pump()
	gots(t, x,
		received(0, object(1, 1)), received(0, object(1, 2)),
		answered(2, object(1, 1)), answered(2, object(2, 2)), endOf(2))
}

// What comes before the OK is received once that has come.
func TestIntakeBeforeOK(t *testing.T) {
	b, x := asking(t)
	b.send(groupBytes(0, object(1, 1)), false)
	b.send(groupBytes(0, object(2, 1)), true)
	b.send(fetchBytes(2, object(1, 1)), true)
	b.pump()
	gots(t, x)
	b.say(word.Msg{Kind: word.FetchOK, ID: 2})
	b.pump()
	gots(t, x, answered(2, object(1, 1)), endOf(2))
	b.say(word.Msg{Kind: word.SubscribeOK})
	b.pump()
	gots(t, x, answered(2, object(1, 1)), endOf(2), received(0, object(1, 1)), received(0, object(2, 1)))
	if len(b.p.coming) != 1 {
		t.Fatalf("%d streams are not over; want 1", len(b.p.coming))
	}
}

// So much may come before the OK that no more could if it were left unread.
func TestMuchBeforeOK(t *testing.T) {
	b, x := asking(t)
	var want []Got
	for i := range uint64(30) {
		b.send(groupBytes(0, large(1+i, 1, 2000)), true)
		b.pump()
		want = append(want, received(0, large(1+i, 1, 2000)))
	}
	gots(t, x)
	b.say(word.Msg{Kind: word.SubscribeOK})
	b.pump()
	gots(t, x, want...)
}

// If an Error comes instead, nothing is received.
func TestIntakeBeforeError(t *testing.T) {
	b, x := asking(t)
	b.send(groupBytes(0, object(1, 1)), true)
	b.send(fetchBytes(2, object(1, 1)), true)
	b.pump()
	b.say(word.Msg{Kind: word.SubscribeError, Code: 4})
	b.say(word.Msg{Kind: word.FetchError, ID: 2, Code: 4})
	b.pump()
	gots(t, x)
	if len(b.p.coming) != 0 {
		t.Fatalf("%d streams are held", len(b.p.coming))
	}
}

// Nothing is received for a request that is over, by whichever side.
func TestIntakeAfterOver(t *testing.T) {
	b, x := serving(t)
	group, fetch := b.send(groupBytes(0, object(1, 1)), false), b.send(fetchBytes(2, object(1, 1)), false)
	b.pump()
	want := []Got{received(0, object(1, 1)), answered(2, object(1, 1))}
	gots(t, x, want...)
	checkErrno(t, "unsubscribe", x.unsubscribe(0), api.OK)
	checkErrno(t, "unsubscribe", x.unsubscribe(2), api.OK)
	b.l.Write(group, groupBytes(0, object(1, 2))[4:], true)
	b.l.Write(fetch, fetchBytes(2, object(1, 2))[2:], true)
	gram, _ := item.Gram(0, api.Object{Place: at(3, 3), Gram: true})
	b.l.Gram(gram)
	b.pump()
	b.checkSaid(word.Msg{Kind: word.Unsubscribe}, word.Msg{Kind: word.FetchCancel, ID: 2})
	gots(t, x, want...)

	b, x = serving(t)
	b.say(word.Msg{Kind: word.SubscribeDone, Code: 3})
	b.pump()
	b.send(groupBytes(0, object(1, 1)), false)
	b.pump()
	gots(t, x)
}

// A stream that is reset gives nothing more, and does not end.
func TestIntakeOfReset(t *testing.T) {
	b, x := serving(t)
	group, fetch := b.send(groupBytes(0, object(1, 1)), false), b.send(fetchBytes(2, object(1, 1)), false)
	b.pump()
	b.l.Reset(group, 0)
	b.l.Reset(fetch, 0)
	b.pump()
	gots(t, x, received(0, object(1, 1)), answered(2, object(1, 1)))
	if len(b.p.coming) != 0 {
		t.Fatal("a stream that was reset is kept")
	}
}

func TestIntakeOfGrams(t *testing.T) {
	b, x := serving(t)
	var want []Got
	for i, alias := range []uint64{0, 0, 1, 0} {
		o := object(1, uint64(i))
		o.Gram = true
		p, _ := item.Gram(alias, o)
		b.l.Gram(p)
		b.l.Gram(p)
		if alias == 0 && i > 0 {
			want = append(want, received(0, o))
		}
	}
	b.pump()
	// 1/0 is not requested, the alias 1 is unknown, and each comes twice.
	gots(t, x, want...)
}

// A Gram before the OK is lost.
func TestGramBeforeOK(t *testing.T) {
	b, x := asking(t)
	p, _ := item.Gram(0, api.Object{Place: at(1, 1), Gram: true})
	b.l.Gram(p)
	b.pump()
	b.say(word.Msg{Kind: word.SubscribeOK})
	b.pump()
	gots(t, x)
}

// An end answers an Announce with an OK, so that the hub can take it back.
func TestHearAnnounce(t *testing.T) {
	b, _ := newEndBench(t, far)
	b.say(word.Msg{Kind: word.Announce, Name: []byte("u")})
	b.pump()
	b.checkSaid(word.Msg{Kind: word.AnnounceOK, ID: 1})
	b.say(word.Msg{Kind: word.Unannounce, Name: []byte("u")})
	b.pump()
	b.checkSaid(word.Msg{Kind: word.MaxRequest, N: 51})
}

// Messages may come in any pieces.
func TestMessageInPieces(t *testing.T) {
	b, _ := newEndBench(t, far)
	m, _ := b.s.Say(word.Msg{Kind: word.Announce, Name: []byte("u")})
	p, _ := word.Bytes(m)
	for i := range p {
		b.checkSaid()
		b.l.Write(control, p[i:i+1], false)
		b.pump()
	}
	b.checkSaid(word.Msg{Kind: word.AnnounceOK, ID: 1})
}

// What breaks the session closes the connection with its code.
func TestBrokenMessage(t *testing.T) {
	for _, x := range []struct {
		p    []byte
		code uint64
	}{
		{[]byte{0x3f}, api.SessionBroken},
		{[]byte{word.Unsubscribe, 0, 2, 5, 5}, api.SessionBroken},
		{[]byte{word.AnnounceOK, 0, 1, 0}, api.SessionBroken},
		{[]byte{word.Announce, 0, 3, 5, 1, 'u'}, api.SessionBadID},
		{[]byte{word.Announce, 0, 3, 1, 1, 'u', word.Announce, 0, 3, 1, 1, 'u'}, api.SessionBadID},
	} {
		b, _ := newEndBench(t, far)
		b.l.Write(control, x.p, false)
		b.pump()
		b.checkClosed(x.code)
	}
}

func TestBrokenStream(t *testing.T) {
	for _, p := range [][]byte{{0x11}, {0x10, 0}, groupBytes(0, object(1, 1))[:6], append(groupBytes(0, object(1, 1)), 1, 0)} {
		b, x := serving(t)
		b.send(p, true)
		b.pump()
		b.checkClosed(api.SessionBroken)
		if len(x.got) > 1 {
			t.Fatalf("%+v was received of %x", x.got, p)
		}
	}
	b, _ := serving(t)
	b.l.Gram([]byte{2, 0})
	b.pump()
	b.checkClosed(api.SessionBroken)
}

// newRelayBench returns a hub whose peers 0 and 1 are made by hand: 0 announces t, and 1 subscribes to it with the alias 5 and fetches 0/0 to 0/1. Both requests of the hub to 0, with the IDs 1 and 3 and the alias 0, wait.
func newRelayBench(t *testing.T) (*bench, *bench) {
	t.Helper()
	h, e := hub.New(1000)
	checkErrno(t, "New", e, api.OK)
	r := newRelay(h)
	a, b := newBench(t, r, 0, true, far, 50, 90), newBench(t, r, 1, true, far, 50, 90)
	a.say(word.Msg{Kind: word.Announce, Name: []byte("t")})
	a.pump()
	a.checkSaid(word.Msg{Kind: word.AnnounceOK})
	b.pump()
	b.checkSaid(word.Msg{Kind: word.Announce, ID: 1, Name: []byte("t")})
	b.subscribe("t", 5, 0, 1)
	b.say(word.Msg{Kind: word.Fetch, Name: []byte("t"), End: at(0, 1)})
	b.pump()
	a.pump()
	a.checkSaid(
		word.Msg{Kind: word.Subscribe, ID: 1, Name: []byte("t"), Order: 1},
		word.Msg{Kind: word.Fetch, ID: 3, Name: []byte("t"), End: at(0, 1)})
	return a, b
}

// What comes at a hub before the OK is passed on once that has come.
func TestRelayBeforeOK(t *testing.T) {
	a, b := newRelayBench(t)
	a.send(groupBytes(0, object(0, 0), object(0, 1)), false)
	a.send(fetchBytes(3, object(0, 0)), true)
	a.pump()
	b.pump()
	b.checkStreams()
	a.say(word.Msg{Kind: word.SubscribeOK, ID: 1})
	a.say(word.Msg{Kind: word.FetchOK, ID: 3})
	a.pump()
	b.pump()
	b.checkSaid(word.Msg{Kind: word.SubscribeOK}, word.Msg{Kind: word.FetchOK, ID: 2}, word.Msg{Kind: word.MaxRequest, N: 51})
	b.checkStreams(open(groupBytes(5, object(0, 0), object(0, 1))), ended(fetchBytes(2, object(0, 0))))
}

// What a hub has given before a SubscribeDone is reset.
func TestRelayDone(t *testing.T) {
	a, b := newRelayBench(t)
	a.say(word.Msg{Kind: word.SubscribeOK, ID: 1})
	a.pump()
	b.pump()
	a.send(groupBytes(0, object(0, 0)), false)
	a.pump()
	b.pump()
	b.checkStreams(open(groupBytes(5, object(0, 0))))
	a.say(word.Msg{Kind: word.SubscribeDone, ID: 1, Code: 9})
	a.pump()
	b.pump()
	b.checkStreams(stream{data: groupBytes(5, object(0, 0)), reset: true})
	if len(b.p.flows) != 0 {
		t.Fatal("the flow goes on")
	}
}

// A session that breaks closes one connection of a hub, and for the others its peer has left.
func TestRelayBroken(t *testing.T) {
	a, b := newRelayBench(t)
	b.forget()
	a.l.Write(control, []byte{word.AnnounceOK, 0, 1, 0}, false)
	a.pump()
	a.checkClosed(api.SessionBroken)
	b.pump()
	b.checkSaid(
		word.Msg{Kind: word.SubscribeError, Code: 6}, word.Msg{Kind: word.MaxRequest, N: 51},
		word.Msg{Kind: word.FetchError, ID: 2, Code: 6}, word.Msg{Kind: word.MaxRequest, N: 52})
	if b.p.over || len(b.p.node.(*relay).hub.Peers()) != 1 {
		t.Fatal("the other connection is over")
	}
}
