package hub_test

import (
	"testing"

	"colonnade/hub"
	"colonnade/word"
)

// What was not fetched yet stays in order.
func TestOutInOrder(t *testing.T) {
	h := newHub(t, most)
	join(t, h, 2, false)
	join(t, h, 1, true)
	hear(t, h, 1, setupFrom(false, may), announce(0, "t"))
	hear(t, h, 2, setupFrom(true, may), subscribe(1, 5, "t"))
	hear(t, h, 1, about(word.SubscribeOK, 1))
	pass(t, h, 1, 0, object(0, 0, 1), object(0, 1, 1))
	hear(t, h, 2, about(word.AnnounceOK, 0), fetch(3, "t", at(0, 0), at(0, 1)))
	pass(t, h, 1, 0, object(0, 2, 1))
	hear(t, h, 1, unannounce("t"))
	checkOut(t, h, []hub.Said{
		to(2, setupFrom(false, lets)),
		to(1, setupFrom(true, lets)),
		to(1, about(word.AnnounceOK, 0)),
		to(2, announce(0, "t")),
		to(1, subscribe(1, 0, "t")),
		to(2, about(word.SubscribeOK, 1)),
		to(2, about(word.FetchOK, 3)), to(2, maxRequest(lets+1)),
		to(1, maxRequest(lets+1)),
		to(1, about(word.Unsubscribe, 1)),
		to(2, over(word.SubscribeDone, 1, 3)), to(2, maxRequest(lets+2)),
		to(2, unannounce("t")),
	}, []hub.Give{
		given(2, 1, 5, object(0, 0, 1)), given(2, 1, 5, object(0, 1, 1)),
		answer(2, 3, object(0, 0, 1))[0], answer(2, 3, object(0, 1, 1))[0], end(2, 3),
		given(2, 1, 5, object(0, 2, 1)),
	})
}

// What was sent before stays to be sent when a peer leaves.
func TestOutAfterLeave(t *testing.T) {
	h := feeding(t)
	pass(t, h, 1, 0, object(0, 0, 1))
	hear(t, h, 2, subscribe(2, 9, "u"))
	leave(t, h, 2)
	checkOut(t, h, []hub.Said{to(2, over(word.SubscribeError, 2, 4)), to(2, maxRequest(lets+1)), to(1, about(word.Unsubscribe, 1))},
		[]hub.Give{given(2, 0, 5, object(0, 0, 1))})
}
