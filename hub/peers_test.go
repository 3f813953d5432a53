package hub_test

import (
	"math"
	"testing"

	"colonnade/api"
	"colonnade/hub"
	"colonnade/talk"
	"colonnade/word"
)

func TestNew(t *testing.T) {
	for _, room := range []int{1, 16, 8192, most} {
		h := newHub(t, room)
		checkPeers(t, h)
		checkTracks(t, h)
		checkUsed(t, h, 0)
		checkSaid(t, h)
	}
	for _, room := range []int{0, -1, most + 1, math.MinInt, math.MaxInt} {
		if h, e := hub.New(room); h != nil || e != api.ErrArg {
			t.Errorf("New(%d) = %p, %d", room, h, e)
		}
	}
}

func TestJoin(t *testing.T) {
	h := newHub(t, most)
	join(t, h, 7, true)
	checkSaid(t, h)
	join(t, h, math.MaxUint64, false)
	checkSaid(t, h, to(math.MaxUint64, setupFrom(false, lets)))
	join(t, h, 0, true)
	checkPeers(t, h, 0, 7, math.MaxUint64)
	for _, peer := range []uint64{0, 7, math.MaxUint64} {
		s := h.Session(peer)
		if s == nil || s.Up() || s.Code() != 0 || h.Session(peer) != s {
			t.Fatalf("the session of %d is %+v", peer, s)
		}
	}
	hear(t, h, 7, setupFrom(false, may))
	checkSaid(t, h, to(7, setupFrom(true, lets)))
	hear(t, h, math.MaxUint64, setupFrom(true, may))
	checkSaid(t, h)
	if !h.Session(7).Up() || !h.Session(math.MaxUint64).Up() || h.Session(0).Up() {
		t.Fatal("only 7 and the largest number have sent their Setups")
	}
	if h.Session(1) != nil {
		t.Fatal("there is no peer 1")
	}
}

func TestLets(t *testing.T) {
	h := newHub(t, most)
	if e := h.Join(1, true, 1); e != api.OK {
		t.Fatal(e)
	}
	hear(t, h, 1, setupFrom(false, may), announce(0, "t"))
	checkSaid(t, h, to(1, setupFrom(true, 1)), to(1, about(word.AnnounceOK, 0)))
	if code := h.Hear(1, announce(2, "u")); code != api.SessionTooMany {
		t.Fatalf("the second request: %x", code)
	}
}

func TestJoinErrors(t *testing.T) {
	h := newHub(t, most)
	for p := range uint64(api.MaxPeers) {
		join(t, h, p, false)
		if e := h.Join(p, true, 1); e != api.ErrExists {
			t.Fatalf("Join(%d) again: %d", p, e)
		}
	}
	h.Out()
	if e := h.Join(api.MaxPeers, false, 1); e != api.ErrFull {
		t.Fatalf("Join of one too many: %d", e)
	}
	if e := h.Join(0, false, 1); e != api.ErrExists {
		t.Fatalf("Join(0) again, among as many as there may be: %d", e)
	}
	checkPeers(t, h, 0, 1, 2, 3, 4, 5, 6, 7)
	checkSaid(t, h)
	leave(t, h, 3)
	join(t, h, 100, true)
	checkPeers(t, h, 0, 1, 2, 4, 5, 6, 7, 100)
}

func TestLeaveOfNobody(t *testing.T) {
	h := feeding(t)
	for _, peer := range []uint64{0, 5, math.MaxUint64} {
		if e := h.Leave(peer); e != api.ErrNone {
			t.Fatalf("Leave(%d): %d", peer, e)
		}
	}
	leave(t, h, 4)
	if e := h.Leave(4); e != api.ErrNone {
		t.Fatalf("Leave(4) again: %d", e)
	}
	checkSaid(t, h)
	checkPeers(t, h, 1, 2, 3)
	checkFeed(t, h, "t", granted, 1)
}

func TestAgainAfterLeave(t *testing.T) {
	h := hubOf(t, 1, 2)
	old := h.Session(2)
	hear(t, h, 2, announce(0, "t"))
	leave(t, h, 2)
	if h.Session(2) != nil || h.Hear(2, setupFrom(false, may)) != 0 || h.Session(2) != nil {
		t.Fatal("2 has left")
	}
	h.Out()
	join(t, h, 2, true)
	if h.Session(2) == old {
		t.Fatal("the session is the old one")
	}
	hear(t, h, 2, setupFrom(false, may), announce(0, "t"))
	checkSaid(t, h, to(2, setupFrom(true, lets)), to(2, about(word.AnnounceOK, 0)), to(1, announce(3, "t")))
}

func TestHearOfNobody(t *testing.T) {
	h := hubOf(t, 1)
	for _, m := range []word.Msg{setupFrom(false, may), announce(0, "t"), {}} {
		if code := h.Hear(2, m); code != 0 {
			t.Fatalf("Hear(2, %+v) = %x, but there is no peer 2", m, code)
		}
	}
	checkPeers(t, h, 1)
	checkTracks(t, h)
	checkSaid(t, h)
}

// Each error of a session closes it with its code, and removes the peer.
func TestHearErrors(t *testing.T) {
	for _, x := range []struct {
		m    word.Msg
		code uint64
	}{
		{word.Msg{}, api.SessionBroken},
		{word.Msg{Kind: word.Subscribe, Name: []byte("t"), Order: 3}, api.SessionBroken},
		{setupFrom(false, may), api.SessionBroken},
		{announce(4, "u"), api.SessionBadID},
		{announce(1, "u"), api.SessionBadID},
		{subscribe(2, 5, "t"), api.SessionAlias},
		{about(word.SubscribeOK, 1), api.SessionBroken},
		{unannounce("u"), api.SessionBroken},
		{about(word.Unsubscribe, 2), api.SessionBroken},
		{maxRequest(may), api.SessionBroken},
		{about(word.Goaway, 0), api.SessionBroken},
	} {
		h := feeding(t)
		s := h.Session(2)
		if code := h.Hear(2, x.m); code != x.code {
			t.Fatalf("Hear(2, %+v) = %x; want %x", x.m, code, x.code)
		}
		checkPeers(t, h, 1, 3, 4)
		checkFeed(t, h, "t", none, 0)
		checkSaid(t, h, to(1, about(word.Unsubscribe, 1)))
		if h.Session(2) != s || s.Code() != x.code || s.Up() {
			t.Fatalf("after %+v the session is %p with the code %x; it was %p", x.m, h.Session(2), s.Code(), s)
		}
		if code, e := h.Hear(2, x.m), h.Leave(2); code != 0 || e != api.ErrNone {
			t.Fatalf("Hear and Leave of one that was removed: %x, %d", code, e)
		}
		checkSaid(t, h)
	}
}

func TestVersionError(t *testing.T) {
	h := serving(t, "t")
	join(t, h, 5, false)
	if code := h.Hear(5, word.Msg{Kind: word.ServerSetup, Version: 2}); code != api.SessionVersion {
		t.Fatalf("%x", code)
	}
	checkSaid(t, h, to(5, setupFrom(false, lets)))
	join(t, h, 5, true)
	if code := h.Hear(5, word.Msg{Kind: word.ClientSetup, Versions: []uint64{2, 3}}); code != api.SessionVersion {
		t.Fatalf("%x", code)
	}
	checkSaid(t, h)
	checkPeers(t, h, 1, 2, 3, 4)
}

// What a session sent before it was closed is still to be sent.
func TestOutOfRemoved(t *testing.T) {
	h := serving(t, "t")
	join(t, h, 5, true)
	hear(t, h, 5, setupFrom(false, may), subscribe(0, 1, "u"))
	if code := h.Hear(5, word.Msg{}); code != api.SessionBroken {
		t.Fatalf("%x", code)
	}
	checkSaid(t, h, to(5, setupFrom(true, lets)), to(5, announce(1, "t")), to(5, over(word.SubscribeError, 0, 4)), to(5, maxRequest(lets+1)))
}

// A number may be another peer's after one was removed for an error.
func TestAgainAfterError(t *testing.T) {
	h := hubOf(t, 1, 2)
	old := h.Session(2)
	h.Hear(2, word.Msg{})
	join(t, h, 2, true)
	fresh := h.Session(2)
	if fresh == old || fresh == nil || fresh.Code() != 0 {
		t.Fatal("the session is not a new one")
	}
	hear(t, h, 2, setupFrom(false, may))
	leave(t, h, 2)
	if h.Session(2) != nil {
		t.Fatal("one that left has a session")
	}
}

func TestNilHub(t *testing.T) {
	var h *hub.Hub
	if e := h.Join(1, true, 9); e != api.ErrNone {
		t.Errorf("Join: %d", e)
	}
	if e := h.Leave(1); e != api.ErrNone {
		t.Errorf("Leave: %d", e)
	}
	if code := h.Hear(1, setupFrom(false, 9)); code != 0 {
		t.Errorf("Hear: %x", code)
	}
	if e := h.Object(1, 0, object(0, 0, 1)); e != api.ErrNone {
		t.Errorf("Object: %d", e)
	}
	if e := h.Fetched(1, 1, object(0, 0, 1), false); e != api.ErrNone {
		t.Errorf("Fetched: %d", e)
	}
	if l, g := h.Out(); l != nil || g != nil {
		t.Errorf("Out: %+v, %+v", l, g)
	}
	if s := h.Session(1); s != nil {
		t.Errorf("Session: %p", s)
	}
	if l := h.Peers(); l != nil {
		t.Errorf("Peers: %d", l)
	}
	if l := h.Tracks(); l != nil {
		t.Errorf("Tracks: %q", l)
	}
	if feed, users, used := h.Feed([]byte("t")), h.Users([]byte("t")), h.Used(); feed != 0 || users != 0 || used != 0 {
		t.Errorf("Feed, Users, Used: %d, %d, %d", feed, users, used)
	}
}

// The session is the hub's own, so that it shows each state at once.
func TestSession(t *testing.T) {
	h := serving(t, "t")
	s, source := h.Session(2), h.Session(1)
	hear(t, h, 2, subscribe(0, 5, "t"))
	if l := s.Asks(false); len(l) != 1 || !sameAsk(l[0], talk.Ask{Msg: subscribe(0, 5, "t"), State: talk.Waiting}) {
		t.Fatalf("%+v", l)
	}
	if l := source.Asks(true); len(l) != 1 || !sameAsk(l[0], talk.Ask{Msg: subscribe(1, 0, "t"), State: talk.Waiting}) {
		t.Fatalf("%+v", l)
	}
	hear(t, h, 1, about(word.SubscribeOK, 1))
	checkState(t, h, 2, 0, talk.Granted)
	checkState(t, h, 1, 1, talk.Granted)
	hear(t, h, 2, about(word.Unsubscribe, 0))
	checkState(t, h, 2, 0, talk.Over)
	checkState(t, h, 1, 1, talk.Over)
}
