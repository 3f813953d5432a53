package hub_test

import (
	"testing"

	"colonnade/talk"
	"colonnade/word"
)

func TestSubscribe(t *testing.T) {
	h := serving(t, "t")
	m := word.Msg{Kind: word.Subscribe, Alias: 7, Name: []byte("t"), Priority: 9, Order: 2, Start: at(3, 4), End: at(5, 0)}
	hear(t, h, 2, m)
	checkSaid(t, h, to(1, word.Msg{Kind: word.Subscribe, ID: 1, Name: []byte("t"), Order: 1}))
	checkFeed(t, h, "t", asked, 1)
	hear(t, h, 3, subscribe(0, 7, "t"), subscribe(2, 8, "t"))
	checkSaid(t, h)
	checkFeed(t, h, "t", asked, 3)
	hear(t, h, 1, about(word.SubscribeOK, 1))
	checkSaid(t, h, to(2, about(word.SubscribeOK, 0)), to(3, about(word.SubscribeOK, 0)), to(3, about(word.SubscribeOK, 2)))
	checkFeed(t, h, "t", granted, 3)
	hear(t, h, 4, subscribe(0, 7, "t"))
	checkSaid(t, h, to(4, about(word.SubscribeOK, 0)))
	checkFeed(t, h, "t", granted, 4)
}

// The order of the requests counts, not that of the peers.
func TestOrderOfUsers(t *testing.T) {
	h := serving(t, "t")
	hear(t, h, 4, subscribe(0, 1, "t"))
	hear(t, h, 2, subscribe(0, 1, "t"))
	hear(t, h, 3, subscribe(0, 1, "t"))
	hear(t, h, 2, subscribe(2, 2, "t"))
	hear(t, h, 4, about(word.Unsubscribe, 0), subscribe(2, 1, "t"))
	h.Out()
	hear(t, h, 1, about(word.SubscribeOK, 1))
	checkSaid(t, h, to(2, about(word.SubscribeOK, 0)), to(3, about(word.SubscribeOK, 0)), to(2, about(word.SubscribeOK, 2)), to(4, about(word.SubscribeOK, 2)))
	pass(t, h, 1, 0, object(0, 0, 1))
	o := object(0, 0, 1)
	checkGiven(t, h, given(2, 0, 1, o), given(3, 0, 1, o), given(2, 2, 2, o), given(4, 2, 1, o))
}

func TestSubscribeToNothing(t *testing.T) {
	h := serving(t, "t")
	hear(t, h, 2, subscribe(0, 5, "u"), subscribe(2, 5, "t\x00"))
	checkSaid(t, h, to(2, over(word.SubscribeError, 0, 4)), to(2, maxRequest(lets+1)), to(2, over(word.SubscribeError, 2, 4)), to(2, maxRequest(lets+2)))
	hear(t, h, 1, subscribe(2, 5, "t"))
	checkSaid(t, h, to(1, over(word.SubscribeError, 2, 4)), to(1, maxRequest(lets+1)))
	checkFeed(t, h, "t", none, 0)
	checkFeed(t, h, "u", none, 0)
	checkFeed(t, h, "", none, 0)
	checkState(t, h, 2, 0, talk.Over)
}

// The source is not a user of its own track either when the feed is granted.
func TestSubscribeOfSource(t *testing.T) {
	h := feeding(t)
	hear(t, h, 1, subscribe(2, 5, "t"))
	checkSaid(t, h, to(1, over(word.SubscribeError, 2, 4)), to(1, maxRequest(lets+1)))
	checkFeed(t, h, "t", granted, 1)
}

// SubscribeOK tells the largest place that the shelf ever had.
func TestSome(t *testing.T) {
	h := feeding(t)
	hear(t, h, 3, subscribe(0, 1, "t"))
	checkSaid(t, h, to(3, about(word.SubscribeOK, 0)))
	pass(t, h, 1, 0, object(0, 0, 1))
	h.Out()
	hear(t, h, 3, subscribe(2, 2, "t"))
	checkSaid(t, h, to(3, okAt(2, at(0, 0))))
	pass(t, h, 1, 0, object(2, 3, 1), object(2, 1, 1), object(1, 9, 1))
	h.Out()
	hear(t, h, 4, subscribe(0, 2, "t"))
	checkSaid(t, h, to(4, okAt(0, at(2, 3))))
	hear(t, h, 4, subscribe(2, 3, "u"))
	hear(t, h, 2, about(word.Unsubscribe, 0))
	hear(t, h, 3, about(word.Unsubscribe, 0), about(word.Unsubscribe, 2))
	hear(t, h, 4, about(word.Unsubscribe, 0))
	h.Out()
	hear(t, h, 2, subscribe(2, 6, "t"))
	checkSaid(t, h, to(1, subscribe(3, 0, "t")))
	hear(t, h, 1, okAt(3, at(7, 7)))
	checkSaid(t, h, to(2, okAt(2, at(2, 3))))
}

// The largest place is told also if the object had to make room.
func TestSomeWithoutObjects(t *testing.T) {
	h := newHub(t, 40)
	for p := range uint64(3) {
		join(t, h, p, true)
		hear(t, h, p, setupFrom(false, may))
	}
	hear(t, h, 0, announce(0, "t"), announce(2, "u"))
	hear(t, h, 1, subscribe(0, 1, "t"), subscribe(2, 2, "u"))
	hear(t, h, 0, about(word.SubscribeOK, 1), about(word.SubscribeOK, 3))
	pass(t, h, 0, 0, object(6, 1, 24))
	pass(t, h, 0, 1, object(0, 0, 24))
	checkUsed(t, h, 40)
	h.Out()
	hear(t, h, 2, subscribe(0, 1, "t"), subscribe(2, 2, "u"))
	checkSaid(t, h, to(2, okAt(0, at(6, 1))), to(2, okAt(2, at(0, 0))))
}

// If the source permits no request, the Subscribe fails; later ones are tried again.
func TestSubscribeWithoutCredit(t *testing.T) {
	h := newHub(t, most)
	join(t, h, 1, true)
	join(t, h, 2, true)
	hear(t, h, 1, setupFrom(false, 1), announce(0, "t"), announce(2, "u"))
	hear(t, h, 2, setupFrom(false, may), subscribe(0, 5, "t"))
	h.Out()
	hear(t, h, 2, subscribe(2, 6, "u"))
	checkSaid(t, h, to(2, over(word.SubscribeError, 2, 5)), to(2, maxRequest(lets+1)))
	checkFeed(t, h, "u", none, 0)
	hear(t, h, 1, maxRequest(2))
	checkSaid(t, h)
	hear(t, h, 2, subscribe(4, 6, "u"))
	checkSaid(t, h, to(1, subscribe(3, 1, "u")))
	checkFeed(t, h, "u", asked, 1)
}

func TestUnsubscribe(t *testing.T) {
	h := serving(t, "t")
	hear(t, h, 2, subscribe(0, 5, "t"), subscribe(2, 6, "t"))
	hear(t, h, 3, subscribe(0, 5, "t"))
	h.Out()
	hear(t, h, 2, about(word.Unsubscribe, 0))
	checkSaid(t, h, to(2, maxRequest(lets+1)))
	checkFeed(t, h, "t", asked, 2)
	hear(t, h, 3, about(word.Unsubscribe, 0))
	checkSaid(t, h, to(3, maxRequest(lets+1)))
	hear(t, h, 1, about(word.SubscribeOK, 1))
	checkSaid(t, h, to(2, about(word.SubscribeOK, 2)))
	hear(t, h, 2, about(word.Unsubscribe, 2))
	checkSaid(t, h, to(2, maxRequest(lets+2)), to(1, about(word.Unsubscribe, 1)))
	checkFeed(t, h, "t", none, 0)
	hear(t, h, 2, about(word.Unsubscribe, 2), about(word.Unsubscribe, 0))
	checkSaid(t, h)
}

// An Unsubscribe for a request that is over means nothing to the request that came after it, nor to that of another peer or track with the same ID.
func TestUnsubscribeOfOther(t *testing.T) {
	h := serving(t, "t", "u")
	hear(t, h, 2, subscribe(0, 5, "t"), about(word.Unsubscribe, 0), subscribe(2, 5, "t"))
	hear(t, h, 3, subscribe(0, 5, "u"), subscribe(2, 6, "t"))
	h.Out()
	hear(t, h, 2, about(word.Unsubscribe, 0))
	checkSaid(t, h)
	checkFeed(t, h, "t", asked, 2)
	hear(t, h, 2, about(word.Unsubscribe, 2))
	checkSaid(t, h, to(2, maxRequest(lets+2)))
	checkFeed(t, h, "t", asked, 1)
	hear(t, h, 3, about(word.Unsubscribe, 0))
	checkSaid(t, h, to(3, maxRequest(lets+1)), to(1, about(word.Unsubscribe, 5)))
	checkFeed(t, h, "t", asked, 1)
	checkFeed(t, h, "u", none, 0)
}

// A feed that was given up is asked for anew, and the source's answer to the old request means nothing.
func TestFeedAgain(t *testing.T) {
	h := serving(t, "t")
	hear(t, h, 2, subscribe(0, 5, "t"), about(word.Unsubscribe, 0))
	h.Out()
	hear(t, h, 1, about(word.SubscribeOK, 1))
	checkSaid(t, h)
	checkFeed(t, h, "t", none, 0)
	hear(t, h, 3, subscribe(0, 5, "t"))
	checkSaid(t, h, to(1, subscribe(3, 0, "t")))
	hear(t, h, 1, about(word.SubscribeOK, 1), over(word.SubscribeError, 1, 9), over(word.SubscribeDone, 1, 9))
	checkSaid(t, h)
	checkFeed(t, h, "t", asked, 1)
	hear(t, h, 1, about(word.SubscribeOK, 3))
	checkSaid(t, h, to(3, about(word.SubscribeOK, 0)))
	checkFeed(t, h, "t", granted, 1)
}

func TestFeedRefused(t *testing.T) {
	h := serving(t, "t", "u")
	hear(t, h, 2, subscribe(0, 5, "t"))
	hear(t, h, 3, subscribe(0, 5, "u"), subscribe(2, 6, "t"))
	h.Out()
	hear(t, h, 1, word.Msg{Kind: word.SubscribeError, ID: 1, Code: top, Reason: []byte("no")})
	checkSaid(t, h, to(2, over(word.SubscribeError, 0, top)), to(2, maxRequest(lets+1)), to(3, over(word.SubscribeError, 2, top)), to(3, maxRequest(lets+1)))
	checkFeed(t, h, "t", none, 0)
	checkFeed(t, h, "u", asked, 1)
	checkTracks(t, h, "t", "u")
	hear(t, h, 2, subscribe(2, 5, "t"))
	checkSaid(t, h, to(1, subscribe(5, 0, "t")))
}

func TestFeedDone(t *testing.T) {
	h := feeding(t)
	hear(t, h, 3, subscribe(0, 7, "t"))
	pass(t, h, 1, 0, object(1, 1, 5))
	h.Out()
	hear(t, h, 1, word.Msg{Kind: word.SubscribeDone, ID: 1, Code: 8, Reason: []byte("over")})
	checkSaid(t, h, to(2, over(word.SubscribeDone, 0, 8)), to(2, maxRequest(lets+1)), to(3, over(word.SubscribeDone, 0, 8)), to(3, maxRequest(lets+1)))
	checkFeed(t, h, "t", none, 0)
	checkTracks(t, h, "t")
	checkUsed(t, h, 5+overhead)
	hear(t, h, 3, subscribe(2, 7, "t"))
	checkSaid(t, h, to(1, subscribe(3, 0, "t")))
	hear(t, h, 1, about(word.SubscribeOK, 3))
	checkSaid(t, h, to(3, okAt(2, at(1, 1))))
}

// The answers to one feed mean nothing to others of the same source, nor to those of another source with the same ID.
func TestFeedsApart(t *testing.T) {
	h := serving(t, "t", "u")
	hear(t, h, 2, announce(0, "v"))
	hear(t, h, 3, subscribe(0, 5, "t"), subscribe(2, 6, "u"))
	hear(t, h, 1, subscribe(4, 5, "v"))
	h.Out()
	hear(t, h, 1, about(word.SubscribeOK, 5))
	checkSaid(t, h, to(3, about(word.SubscribeOK, 2)))
	checkFeed(t, h, "t", asked, 1)
	checkFeed(t, h, "u", granted, 1)
	checkFeed(t, h, "v", asked, 1)
	hear(t, h, 2, about(word.SubscribeOK, 5))
	checkSaid(t, h, to(1, about(word.SubscribeOK, 4)))
	hear(t, h, 1, over(word.SubscribeDone, 5, 1))
	checkSaid(t, h, to(3, over(word.SubscribeDone, 2, 1)), to(3, maxRequest(lets+1)))
	checkFeed(t, h, "t", asked, 1)
	checkFeed(t, h, "u", none, 0)
	checkFeed(t, h, "v", granted, 1)
}
