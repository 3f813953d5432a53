package talk_test

import (
	"bytes"
	"slices"
	"testing"

	"colonnade/api"
	"colonnade/talk"
	"colonnade/word"
)

const (
	top  = api.MaxNum
	most = 1 << 60 // requests of a side
)

// requestKinds are the kinds of requests, okKinds and errorKinds those of their answers.
var (
	requestKinds = []uint64{word.Subscribe, word.Announce, word.Fetch}
	okKinds      = []uint64{word.SubscribeOK, word.AnnounceOK, word.FetchOK}
	errorKinds   = []uint64{word.SubscribeError, word.AnnounceError, word.FetchError}
)

func subscribe(id, alias uint64) word.Msg {
	return word.Msg{Kind: word.Subscribe, ID: id, Alias: alias, Name: []byte("t"), Order: 1}
}

func announce(id uint64, name string) word.Msg {
	return word.Msg{Kind: word.Announce, ID: id, Name: []byte(name)}
}

func fetch(id uint64) word.Msg {
	return word.Msg{Kind: word.Fetch, ID: id, Name: []byte("t"), Start: api.Place{Group: 1}, End: api.Place{Group: 2}}
}

// request returns a request of that kind; its name, or its alias, is another one for each ID.
func request(kind, id uint64) word.Msg {
	switch kind {
	case word.Subscribe:
		return subscribe(id, id)
	case word.Announce:
		return announce(id, nameOf(id))
	default:
		return fetch(id)
	}
}

func nameOf(id uint64) string {
	return "name " + string(rune('a'+id))
}

// about returns a message of a kind that has only an ID, or also a code.
func about(kind, id uint64) word.Msg {
	return word.Msg{Kind: kind, ID: id}
}

func unannounce(name string) word.Msg {
	return word.Msg{Kind: word.Unannounce, Name: []byte(name)}
}

func maxRequest(n uint64) word.Msg {
	return word.Msg{Kind: word.MaxRequest, N: n}
}

func clientSetup(n uint64, versions ...uint64) word.Msg {
	return word.Msg{Kind: word.ClientSetup, Versions: versions, N: n}
}

func serverSetup(n, version uint64) word.Msg {
	return word.Msg{Kind: word.ServerSetup, Version: version, N: n}
}

// setupFrom returns the Setup of a side that permits n requests.
func setupFrom(server bool, n uint64) word.Msg {
	if server {
		return serverSetup(n, 1)
	}
	return clientSetup(n, 1)
}

// first returns the ID of the first request of a side.
func first(server bool) uint64 {
	if server {
		return 1
	}
	return 0
}

// upOf returns a side that is Up and has nothing to send. It permits lets requests, the other side permits may.
func upOf(t *testing.T, server bool, lets, may uint64) *talk.Session {
	t.Helper()
	x := talk.New(server, lets)
	hear(t, x, setupFrom(!server, may))
	checkOut(t, x, setupFrom(server, min(lets, most)))
	checkUp(t, x, true)
	return x
}

func same(a, b word.Msg) bool {
	return a.Kind == b.Kind && a.ID == b.ID && a.Alias == b.Alias && bytes.Equal(a.Name, b.Name) &&
		a.Priority == b.Priority && a.Order == b.Order && a.Start == b.Start && a.End == b.End && a.Some == b.Some &&
		a.Code == b.Code && bytes.Equal(a.Reason, b.Reason) && a.N == b.N && a.Version == b.Version && slices.Equal(a.Versions, b.Versions)
}

func sameAsk(a, b talk.Ask) bool {
	return a.State == b.State && same(a.Msg, b.Msg)
}

func hear(t *testing.T, x *talk.Session, l ...word.Msg) {
	t.Helper()
	for _, m := range l {
		checkHear(t, x, m, 0)
	}
}

func checkHear(t *testing.T, x *talk.Session, m word.Msg, want uint64) {
	t.Helper()
	up := x.Up()
	if code := x.Hear(m); code != want || x.Code() != want {
		t.Fatalf("Hear(%+v) = %x, and Code() = %x; want %x", m, code, x.Code(), want)
	}
	if want != 0 && x.Up() || want == 0 && up && !x.Up() {
		t.Fatalf("after Hear(%+v) = %x, Up() = %t", m, want, x.Up())
	}
}

// checkBroken checks that m, after the messages before, closes a session with the code, and changes nothing else.
func checkBroken(t *testing.T, x *talk.Session, m word.Msg, want uint64) {
	t.Helper()
	own, other := x.Asks(true), x.Asks(false)
	checkHear(t, x, m, want)
	checkHear(t, x, m, want)
	checkHear(t, x, word.Msg{}, want)
	checkOut(t, x)
	checkAsks(t, x, true, own...)
	checkAsks(t, x, false, other...)
	checkSay(t, x, subscribe(0, 1000), api.ErrClosed)
}

// say says messages that must be all right, and returns the last one as it is sent.
func say(t *testing.T, x *talk.Session, l ...word.Msg) word.Msg {
	t.Helper()
	var sent word.Msg
	for _, m := range l {
		var e api.Errno
		if sent, e = x.Say(m); e != api.OK {
			t.Fatalf("Say(%+v): %d", m, e)
		}
		m.ID = sent.ID
		if !same(sent, m) {
			t.Fatalf("Say returns %+v; want %+v", sent, m)
		}
	}
	return sent
}

// checkSay checks that m is refused.
func checkSay(t *testing.T, x *talk.Session, m word.Msg, want api.Errno) {
	t.Helper()
	if sent, e := x.Say(m); e != want || !same(sent, word.Msg{}) {
		t.Fatalf("Say(%+v) = %+v, %d; want %d", m, sent, e, want)
	}
}

func checkOut(t *testing.T, x *talk.Session, want ...word.Msg) {
	t.Helper()
	if l := x.Out(); !slices.EqualFunc(l, want, same) {
		t.Fatalf("Out() = %+v; want %+v", l, want)
	}
	if l := x.Out(); len(l) > 0 {
		t.Fatalf("Out() = %+v once more", l)
	}
}

func checkAsks(t *testing.T, x *talk.Session, own bool, want ...talk.Ask) {
	t.Helper()
	if l := x.Asks(own); !slices.EqualFunc(l, want, sameAsk) {
		t.Fatalf("Asks(%t) = %+v; want %+v", own, l, want)
	}
}

func checkState(t *testing.T, x *talk.Session, id uint64, want int) {
	t.Helper()
	if a, ok := x.Find(id); a.State != want || ok != (want != 0) || ok && a.Msg.ID != id || !ok && !sameAsk(a, talk.Ask{}) {
		t.Fatalf("Find(%d) = %+v, %t; want the state %d", id, a, ok, want)
	}
}

func checkFinish(t *testing.T, x *talk.Session, id uint64, own bool, want api.Errno) {
	t.Helper()
	if e := x.Finish(id, own); e != want {
		t.Fatalf("Finish(%d, %t) = %d; want %d", id, own, e, want)
	}
}

func checkUp(t *testing.T, x *talk.Session, want bool) {
	t.Helper()
	if x.Up() != want {
		t.Fatalf("Up() = %t", !want)
	}
}
