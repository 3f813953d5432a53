package hub_test

import (
	"testing"

	"colonnade/api"
	"colonnade/hub"
	"colonnade/talk"
	"colonnade/word"
)

func TestLeaveOfUser(t *testing.T) {
	h := serving(t, "t", "b", "c")
	hear(t, h, 2, subscribe(0, 1, "t"), subscribe(2, 2, "b"), subscribe(4, 3, "t"), subscribe(6, 4, "c"))
	hear(t, h, 3, subscribe(0, 1, "c"))
	hear(t, h, 1, about(word.SubscribeOK, 1))
	h.Out()
	leave(t, h, 2)
	// First b, then t, as their names are; c has another user.
	checkSaid(t, h, to(1, about(word.Unsubscribe, 3)), to(1, about(word.Unsubscribe, 1)))
	checkPeers(t, h, 1, 3, 4)
	checkTracks(t, h, "b", "c", "t")
	checkFeed(t, h, "b", none, 0)
	checkFeed(t, h, "c", asked, 1)
	checkFeed(t, h, "t", none, 0)
	checkObject(t, h, 1, 0, object(0, 0, 1), api.ErrNone)
}

// Nothing is given to one that left.
func TestGiveAfterLeave(t *testing.T) {
	h := feeding(t)
	hear(t, h, 3, subscribe(0, 7, "t"))
	leave(t, h, 2)
	h.Out()
	pass(t, h, 1, 0, object(0, 0, 1))
	checkGiven(t, h, given(3, 0, 7, object(0, 0, 1)))
}

func TestLeaveOfSource(t *testing.T) {
	h := serving(t, "t", "b")
	hear(t, h, 4, about(word.AnnounceOK, 1), about(word.AnnounceOK, 3))
	hear(t, h, 3, about(word.AnnounceOK, 3), announce(0, "c"))
	hear(t, h, 2, subscribe(0, 5, "t"), subscribe(2, 6, "b"), subscribe(4, 7, "c"))
	hear(t, h, 4, subscribe(0, 5, "t"))
	hear(t, h, 1, about(word.SubscribeOK, 3))
	pass(t, h, 1, 0, object(0, 0, 4))
	checkFeed(t, h, "t", granted, 2)
	h.Out()
	leave(t, h, 1)
	checkSaid(t, h,
		to(2, over(word.SubscribeError, 2, 6)), to(2, maxRequest(lets+1)),
		to(3, unannounce("b")), to(4, unannounce("b")),
		to(2, over(word.SubscribeDone, 0, 6)), to(2, maxRequest(lets+2)),
		to(4, over(word.SubscribeDone, 0, 6)), to(4, maxRequest(lets+1)),
		to(4, unannounce("t")))
	checkTracks(t, h, "c")
	checkFeed(t, h, "c", asked, 1)
	checkUsed(t, h, 0)
}

// For each track first the peer's own request is over, and then what it announced.
func TestLeaveInOrder(t *testing.T) {
	h := hubOf(t, 1, 2, 3)
	hear(t, h, 2, announce(0, "a"), announce(2, "c"))
	hear(t, h, 1, announce(0, "b"), announce(2, "d"))
	hear(t, h, 3, about(word.AnnounceOK, 1), about(word.AnnounceOK, 3), about(word.AnnounceOK, 5), about(word.AnnounceOK, 7))
	hear(t, h, 3, subscribe(0, 1, "d"), subscribe(2, 2, "b"))
	hear(t, h, 1, subscribe(4, 1, "c"), subscribe(6, 2, "a"), fetch(8, "a", at(0, 0), at(0, 0)))
	hear(t, h, 3, fetch(4, "d", at(0, 0), at(0, 0)))
	h.Out()
	leave(t, h, 1)
	checkSaid(t, h,
		to(2, about(word.Unsubscribe, 7)), // a
		to(3, over(word.SubscribeError, 2, 6)), to(3, maxRequest(lets+1)), to(3, unannounce("b")),
		to(2, about(word.Unsubscribe, 5)), // c
		to(3, over(word.SubscribeError, 0, 6)), to(3, maxRequest(lets+2)), to(3, unannounce("d")),
		to(2, about(word.FetchCancel, 9)),
		to(3, over(word.FetchError, 4, 6)), to(3, maxRequest(lets+3)))
	checkTracks(t, h, "a", "c")
	checkPeers(t, h, 2, 3)
}

// Fetches of the peer are cancelled, those to it fail, in the order of the requests; a granted one has its end instead.
func TestLeaveWithFetches(t *testing.T) {
	h := hubOf(t, 1, 2, 3)
	hear(t, h, 1, announce(0, "t"))
	hear(t, h, 2, announce(0, "u"))
	hear(t, h, 3, fetch(0, "t", at(0, 0), at(9, 0)), fetch(2, "u", at(0, 0), at(9, 0)))
	hear(t, h, 1, fetch(2, "u", at(0, 0), at(9, 0)))
	hear(t, h, 2, fetch(2, "t", at(0, 0), at(9, 0)))
	hear(t, h, 1, fetch(4, "u", at(0, 0), at(9, 0)))
	hear(t, h, 3, fetch(4, "t", at(0, 0), at(9, 0)))
	hear(t, h, 1, about(word.FetchOK, 5))
	hear(t, h, 2, about(word.FetchOK, 7))
	h.Out()
	leave(t, h, 1)
	checkOut(t, h, []hub.Said{
		to(3, over(word.FetchError, 0, 6)), to(3, maxRequest(lets+1)),
		to(2, about(word.FetchCancel, 5)),
		to(2, maxRequest(lets+1)),
		to(2, about(word.FetchCancel, 7)),
		to(3, over(word.FetchError, 4, 6)), to(3, maxRequest(lets+2)),
	}, []hub.Give{end(2, 2)})
	checkState(t, h, 2, 2, talk.Over)
	checkState(t, h, 3, 4, talk.Over)
	if l := h.Session(3).Asks(false); len(l) != 1 || !sameAsk(l[0], talk.Ask{Msg: fetch(2, "u", at(0, 0), at(9, 0)), State: talk.Waiting}) {
		t.Fatalf("the requests of 3 are %+v", l)
	}
	for id := range uint64(10) {
		checkFetched(t, h, 1, id, object(1, 1, 1), false, api.ErrNone)
	}
	hear(t, h, 2, about(word.FetchOK, 3))
	checkSaid(t, h, to(3, about(word.FetchOK, 2)))
	checkFetched(t, h, 2, 3, object(1, 1, 1), false, api.OK)
	checkGiven(t, h, answer(3, 2, object(1, 1, 1))...)
}

// A peer is removed for an error as if it had left.
func TestErrorAsLeave(t *testing.T) {
	h := feeding(t)
	hear(t, h, 3, about(word.AnnounceOK, 1), fetch(0, "t", at(0, 0), at(9, 0)), fetch(2, "t", at(0, 0), at(9, 0)))
	hear(t, h, 1, about(word.FetchOK, 5))
	h.Out()
	if code := h.Hear(1, about(word.Goaway, 0)); code != api.SessionBroken {
		t.Fatalf("%x", code)
	}
	checkOut(t, h, []hub.Said{
		to(2, over(word.SubscribeDone, 0, 6)), to(2, maxRequest(lets+1)),
		to(3, unannounce("t")),
		to(3, over(word.FetchError, 0, 6)), to(3, maxRequest(lets+1)),
		to(3, maxRequest(lets+2)),
	}, []hub.Give{end(3, 2)})
	checkTracks(t, h)
	checkPeers(t, h, 2, 3, 4)
}

// A peer that was never Up leaves like any other.
func TestLeaveBeforeSetup(t *testing.T) {
	h := newHub(t, most)
	join(t, h, 1, false)
	leave(t, h, 1)
	checkPeers(t, h)
	if h.Session(1) != nil {
		t.Fatal("it has left")
	}
}
