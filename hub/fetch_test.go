package hub_test

import (
	"testing"

	"colonnade/api"
	"colonnade/hub"
	"colonnade/talk"
	"colonnade/word"
)

// fetching returns a hub with the peers 1 to 4, of which 1 announces t, and 2 has requested 1/0 to 2/5 as its request 0, which is the hub's request 1.
func fetching(t *testing.T) *hub.Hub {
	t.Helper()
	h := serving(t, "t")
	hear(t, h, 2, fetch(0, "t", at(1, 0), at(2, 5)))
	checkSaid(t, h, to(1, fetch(1, "t", at(1, 0), at(2, 5))))
	return h
}

func TestFetchFromShelf(t *testing.T) {
	h := feeding(t)
	l := []api.Object{object(3, 1, 4), object(3, 2, 0), object(3, 3, 9)}
	l[1].Gram = true
	pass(t, h, 1, 0, l[2], l[0], l[1])
	h.Out()
	l[1].Gram = false
	hear(t, h, 3, fetch(0, "t", at(3, 1), at(3, 3)))
	checkOut(t, h, []hub.Said{to(3, about(word.FetchOK, 0)), to(3, maxRequest(lets+1))}, append(answer(3, 0, l...), end(3, 0)))
	checkState(t, h, 3, 0, talk.Over)
	m := fetch(2, "t", at(3, 2), at(3, 2))
	m.Priority = 9
	hear(t, h, 3, m, about(word.FetchCancel, 2))
	checkOut(t, h, []hub.Said{to(3, about(word.FetchOK, 2)), to(3, maxRequest(lets+2))}, append(answer(3, 2, l[1]), end(3, 2)))
	checkUsed(t, h, 13+3*overhead)
}

// Also the source itself, and one that has a Subscribe, is served from the shelf; no feed is needed for it.
func TestFetchOfSource(t *testing.T) {
	h := feeding(t)
	o := object(0, 0, 4)
	pass(t, h, 1, 0, o)
	hear(t, h, 2, about(word.Unsubscribe, 0))
	h.Out()
	hear(t, h, 1, fetch(2, "t", at(0, 0), at(0, 0)))
	checkOut(t, h, []hub.Said{to(1, about(word.FetchOK, 2)), to(1, maxRequest(lets+1))}, append(answer(1, 2, o), end(1, 2)))
	hear(t, h, 1, fetch(4, "t", at(0, 0), at(0, 1)))
	checkSaid(t, h, to(1, over(word.FetchError, 4, 4)), to(1, maxRequest(lets+2)))
}

func TestFetchOfNothing(t *testing.T) {
	h := serving(t, "t")
	hear(t, h, 2, fetch(0, "u", at(0, 0), at(0, 0)))
	checkSaid(t, h, to(2, over(word.FetchError, 0, 4)), to(2, maxRequest(lets+1)))
	hear(t, h, 1, fetch(2, "t", at(0, 0), at(0, 0)))
	checkSaid(t, h, to(1, over(word.FetchError, 2, 4)), to(1, maxRequest(lets+1)))
	checkState(t, h, 2, 0, talk.Over)
}

// What the shelf does not have all of is asked for at the source, all of it.
func TestFetchFromSource(t *testing.T) {
	h := feeding(t)
	pass(t, h, 1, 0, object(1, 0, 4), object(1, 2, 4), object(2, 0, 4))
	h.Out()
	for i, x := range [][2]api.Place{{at(1, 0), at(1, 2)}, {at(1, 0), at(2, 0)}, {at(1, 2), at(1, 3)}, {at(0, 0), at(top, top)}} {
		m := fetch(uint64(2*i), "t", x[0], x[1])
		m.Priority = byte(i * 80)
		hear(t, h, 3, m)
		m.ID = uint64(2*i + 3)
		checkSaid(t, h, to(1, m))
		checkState(t, h, 3, uint64(2*i), talk.Waiting)
	}
	checkFeed(t, h, "t", granted, 1)
}

func TestFetchWithoutCredit(t *testing.T) {
	h := newHub(t, most)
	join(t, h, 1, true)
	join(t, h, 2, true)
	hear(t, h, 1, setupFrom(false, 1), announce(0, "t"))
	hear(t, h, 2, setupFrom(false, may), fetch(0, "t", at(0, 0), at(0, 0)))
	h.Out()
	hear(t, h, 2, fetch(2, "t", at(0, 0), at(0, 0)))
	checkSaid(t, h, to(2, over(word.FetchError, 2, 5)), to(2, maxRequest(lets+1)))
	hear(t, h, 1, maxRequest(2))
	hear(t, h, 2, fetch(4, "t", at(0, 0), at(0, 0)))
	checkSaid(t, h, to(1, fetch(3, "t", at(0, 0), at(0, 0))))
}

func TestFetched(t *testing.T) {
	h := fetching(t)
	hear(t, h, 1, about(word.FetchOK, 1))
	checkSaid(t, h, to(2, about(word.FetchOK, 0)))
	checkState(t, h, 2, 0, talk.Granted)
	l := []api.Object{object(1, 0, 4), object(1, 7, 0), object(2, 5, 2)}
	for _, o := range l {
		checkFetched(t, h, 1, 1, o, false, api.OK)
	}
	checkGiven(t, h, answer(2, 0, l...)...)
	for _, o := range []api.Object{object(0, 9, 1), object(2, 6, 1), object(3, 0, 1)} {
		checkFetched(t, h, 1, 1, o, false, api.OK)
	}
	checkSaid(t, h)
	checkUsed(t, h, 0)
	checkFetched(t, h, 1, 1, object(1, 1, 4), true, api.OK)
	checkOut(t, h, []hub.Said{to(2, maxRequest(lets+1))}, []hub.Give{end(2, 0)})
	checkState(t, h, 2, 0, talk.Over)
	checkState(t, h, 1, 1, talk.Over)
	checkFetched(t, h, 1, 1, object(1, 1, 4), false, api.ErrNone)
	checkFetched(t, h, 1, 1, api.Object{}, true, api.ErrNone)
	hear(t, h, 2, about(word.FetchCancel, 0))
	hear(t, h, 1, about(word.FetchOK, 1), over(word.FetchError, 1, 1))
	checkSaid(t, h)
}

func TestFetchedErrors(t *testing.T) {
	h := fetching(t)
	hear(t, h, 3, fetch(0, "t", at(1, 0), at(2, 5)), subscribe(2, 5, "t"))
	hear(t, h, 1, about(word.FetchOK, 3), about(word.SubscribeOK, 5))
	h.Out()
	for _, end := range []bool{false, true} {
		for _, x := range [][2]uint64{{1, 1}, {1, 5}, {1, 0}, {1, 7}, {1, top}, {2, 0}, {2, 1}, {2, 3}, {3, 0}, {3, 3}, {9, 3}} {
			checkFetched(t, h, x[0], x[1], object(1, 0, 1), end, api.ErrNone)
		}
	}
	checkSaid(t, h)
	checkFetched(t, h, 1, 3, object(1, 0, 1), false, api.OK)
	checkGiven(t, h, answer(3, 0, object(1, 0, 1))...)
}

func TestFetchRefused(t *testing.T) {
	h := fetching(t)
	hear(t, h, 1, word.Msg{Kind: word.FetchError, ID: 1, Code: 77, Reason: []byte("no")})
	checkSaid(t, h, to(2, over(word.FetchError, 0, 77)), to(2, maxRequest(lets+1)))
	checkState(t, h, 2, 0, talk.Over)
	checkFetched(t, h, 1, 1, object(1, 0, 1), false, api.ErrNone)
	leave(t, h, 2)
	checkSaid(t, h)
}

func TestFetchCancel(t *testing.T) {
	for _, isGranted := range []bool{false, true} {
		h := fetching(t)
		if isGranted {
			hear(t, h, 1, about(word.FetchOK, 1))
			h.Out()
		}
		hear(t, h, 2, about(word.FetchCancel, 0))
		checkSaid(t, h, to(2, maxRequest(lets+1)), to(1, about(word.FetchCancel, 1)))
		checkState(t, h, 1, 1, talk.Over)
		hear(t, h, 2, about(word.FetchCancel, 0))
		hear(t, h, 1, over(word.FetchError, 1, 5), about(word.FetchOK, 1))
		checkSaid(t, h)
		checkFetched(t, h, 1, 1, object(1, 0, 1), false, api.ErrNone)
		checkFetched(t, h, 1, 1, object(1, 0, 1), true, api.ErrNone)
		leave(t, h, 2)
		checkSaid(t, h)
	}
}

// Fetches of one peer, or at one source, are told apart by their IDs.
func TestFetchesApart(t *testing.T) {
	h := serving(t, "t")
	hear(t, h, 2, announce(0, "u"))
	hear(t, h, 3, fetch(0, "t", at(0, 0), at(9, 0)), fetch(2, "t", at(0, 0), at(9, 0)), fetch(4, "u", at(0, 0), at(9, 0)))
	hear(t, h, 4, fetch(0, "u", at(0, 0), at(9, 0)), fetch(2, "t", at(0, 0), at(9, 0)))
	hear(t, h, 2, about(word.FetchOK, 3), about(word.FetchOK, 5))
	h.Out()
	hear(t, h, 1, about(word.FetchOK, 5))
	checkSaid(t, h, to(3, about(word.FetchOK, 2)))
	checkFetched(t, h, 2, 3, object(3, 3, 1), false, api.OK)
	checkFetched(t, h, 1, 5, object(4, 4, 1), false, api.OK)
	checkFetched(t, h, 2, 5, object(5, 5, 1), false, api.OK)
	checkGiven(t, h, answer(3, 4, object(3, 3, 1))[0], answer(3, 2, object(4, 4, 1))[0], answer(4, 0, object(5, 5, 1))[0])
	checkFetched(t, h, 2, 3, api.Object{}, true, api.OK)
	checkOut(t, h, []hub.Said{to(3, maxRequest(lets+1))}, []hub.Give{end(3, 4)})
	hear(t, h, 3, about(word.FetchCancel, 0))
	checkSaid(t, h, to(3, maxRequest(lets+2)), to(1, about(word.FetchCancel, 3)))
	hear(t, h, 4, about(word.FetchCancel, 2))
	checkSaid(t, h, to(4, maxRequest(lets+1)), to(1, about(word.FetchCancel, 7)))
	checkState(t, h, 1, 5, talk.Granted)
	checkState(t, h, 2, 5, talk.Granted)
}

// A Fetch goes on when its track is no longer known.
func TestFetchAfterUnannounce(t *testing.T) {
	h := fetching(t)
	hear(t, h, 1, unannounce("t"), about(word.FetchOK, 1))
	h.Out()
	checkFetched(t, h, 1, 1, object(2, 2, 2), false, api.OK)
	checkGiven(t, h, answer(2, 0, object(2, 2, 2))...)
	hear(t, h, 3, fetch(0, "t", at(2, 2), at(2, 2)))
	checkSaid(t, h, to(3, over(word.FetchError, 0, 4)), to(3, maxRequest(lets+1)))
	checkFetched(t, h, 1, 1, api.Object{}, true, api.OK)
	checkOut(t, h, []hub.Said{to(2, maxRequest(lets+1))}, []hub.Give{end(2, 0)})
}

// Fetched objects are not stored, and those of the feed are given to users only.
func TestFetchBesideFeed(t *testing.T) {
	h := feeding(t)
	hear(t, h, 2, fetch(2, "t", at(0, 0), at(9, 0)))
	hear(t, h, 1, about(word.FetchOK, 3))
	h.Out()
	o := object(1, 1, 3)
	checkFetched(t, h, 1, 3, o, false, api.OK)
	checkGiven(t, h, answer(2, 2, o)...)
	checkUsed(t, h, 0)
	pass(t, h, 1, 0, o)
	checkGiven(t, h, given(2, 0, 5, o))
}

// One that permits few requests may be asked again and again, as long as the earlier requests are over.
func TestManyFetches(t *testing.T) {
	h := feeding(t)
	pass(t, h, 1, 0, object(0, 0, 1))
	for i := range uint64(100) {
		hear(t, h, 3, fetch(2*i, "t", at(0, 0), at(0, 0)))
	}
	if l := h.Session(3).Asks(false); len(l) != 0 {
		t.Fatalf("%d requests are not over", len(l))
	}
}
