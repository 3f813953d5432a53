package hub_test

import (
	"strings"
	"testing"

	"colonnade/api"
	"colonnade/talk"
	"colonnade/word"
)

func TestAnnounce(t *testing.T) {
	h := hubOf(t, 9, 2, 5)
	hear(t, h, 5, announce(0, "t"))
	checkSaid(t, h, to(5, about(word.AnnounceOK, 0)), to(2, announce(1, "t")), to(9, announce(1, "t")))
	checkTracks(t, h, "t")
	checkFeed(t, h, "t", none, 0)
	checkState(t, h, 5, 0, talk.Granted)
	checkState(t, h, 2, 1, talk.Waiting)
	hear(t, h, 2, announce(0, "b"), announce(2, "ta"), announce(4, "\x00"))
	checkTracks(t, h, "\x00", "b", "t", "ta")
}

// A name that is known belongs to the one that announced it first, also if that one comes again.
func TestAnnounceOfKnown(t *testing.T) {
	h := serving(t, "t")
	hear(t, h, 2, announce(0, "t"))
	checkSaid(t, h, to(2, over(word.AnnounceError, 0, 1)), to(2, maxRequest(lets+1)))
	hear(t, h, 1, announce(2, "t"))
	checkSaid(t, h, to(1, over(word.AnnounceError, 2, 1)), to(1, maxRequest(lets+1)))
	checkTracks(t, h, "t")
	hear(t, h, 3, subscribe(0, 5, "t"))
	checkSaid(t, h, to(1, subscribe(1, 0, "t")))
	hear(t, h, 1, unannounce("t"))
	checkTracks(t, h)
}

func TestTooManyTracks(t *testing.T) {
	h := newHub(t, most)
	for p := range uint64(2) {
		if e := h.Join(p, true, 40); e != api.OK {
			t.Fatal(e)
		}
		hear(t, h, p, setupFrom(false, 40))
	}
	for i := range api.MaxTracks {
		hear(t, h, 0, announce(uint64(2*i), strings.Repeat("x", i+1)))
	}
	h.Out()
	hear(t, h, 1, announce(0, "u"))
	checkSaid(t, h, to(1, over(word.AnnounceError, 0, 2)), to(1, maxRequest(41)))
	hear(t, h, 1, announce(2, "x"))
	checkSaid(t, h, to(1, over(word.AnnounceError, 2, 1)), to(1, maxRequest(42)))
	if n := len(h.Tracks()); n != api.MaxTracks {
		t.Fatalf("%d tracks", n)
	}
	hear(t, h, 0, unannounce("x"))
	h.Out()
	hear(t, h, 1, announce(4, "u"))
	checkSaid(t, h, to(1, about(word.AnnounceOK, 4)), to(0, announce(1, "u")))
}

// One that comes later hears of all tracks after the Setup.
func TestSetup(t *testing.T) {
	h := serving(t, "t", "b", "ta")
	hear(t, h, 2, announce(0, "a"))
	h.Out()
	join(t, h, 5, true)
	checkSaid(t, h)
	hear(t, h, 5, setupFrom(false, may))
	checkSaid(t, h, to(5, setupFrom(true, lets)), to(5, announce(1, "a")), to(5, announce(3, "b")), to(5, announce(5, "t")), to(5, announce(7, "ta")))
	join(t, h, 0, false)
	checkSaid(t, h, to(0, setupFrom(false, lets)))
	hear(t, h, 0, setupFrom(true, 2))
	checkSaid(t, h, to(0, announce(0, "a")), to(0, announce(2, "b")))
}

// Announces are not sent to peers that are not Up or permit no more requests, also not later.
func TestAnnounceUnsent(t *testing.T) {
	h := hubOf(t, 1)
	join(t, h, 2, true)
	join(t, h, 3, true)
	hear(t, h, 3, setupFrom(false, 1))
	h.Out()
	hear(t, h, 1, announce(0, "t"), announce(2, "u"))
	checkSaid(t, h, to(1, about(word.AnnounceOK, 0)), to(3, announce(1, "t")), to(1, about(word.AnnounceOK, 2)))
	hear(t, h, 3, maxRequest(9))
	checkSaid(t, h)
	hear(t, h, 1, unannounce("u"))
	checkSaid(t, h, to(1, maxRequest(lets+1)))
}

func TestUnannounce(t *testing.T) {
	h := serving(t, "t", "u")
	hear(t, h, 4, about(word.AnnounceOK, 1), about(word.AnnounceOK, 3))
	hear(t, h, 2, over(word.AnnounceError, 1, 0), about(word.AnnounceOK, 3))
	hear(t, h, 3, subscribe(0, 5, "t"), subscribe(2, 6, "u"))
	hear(t, h, 2, subscribe(0, 5, "t"))
	hear(t, h, 3, subscribe(4, 7, "t"))
	h.Out()
	hear(t, h, 1, about(word.SubscribeOK, 1))
	pass(t, h, 1, 0, object(0, 0, 4))
	h.Out()
	hear(t, h, 1, unannounce("t"))
	checkSaid(t, h,
		to(1, maxRequest(lets+1)), to(1, about(word.Unsubscribe, 1)),
		to(3, over(word.SubscribeDone, 0, 3)), to(3, maxRequest(lets+1)),
		to(2, over(word.SubscribeDone, 0, 3)), to(2, maxRequest(lets+1)),
		to(3, over(word.SubscribeDone, 4, 3)), to(3, maxRequest(lets+2)),
		to(4, unannounce("t")))
	checkTracks(t, h, "u")
	checkFeed(t, h, "t", none, 0)
	checkFeed(t, h, "u", asked, 1)
	checkUsed(t, h, 0)
	checkObject(t, h, 1, 0, object(0, 1, 1), api.ErrNone)

	hear(t, h, 1, unannounce("u"))
	checkSaid(t, h,
		to(1, maxRequest(lets+2)), to(1, about(word.Unsubscribe, 3)),
		to(3, over(word.SubscribeError, 2, 3)), to(3, maxRequest(lets+3)),
		to(2, unannounce("u")), to(4, unannounce("u")))
	checkTracks(t, h)
}

// Without a feed the source is asked for nothing.
func TestUnannounceWithoutFeed(t *testing.T) {
	h := serving(t, "t")
	hear(t, h, 1, unannounce("t"))
	checkSaid(t, h, to(1, maxRequest(lets+1)))
	checkTracks(t, h)
}

// The objects of one track go, those of others stay, whatever their names.
func TestUnannounceDrops(t *testing.T) {
	h := serving(t, "t", "t\x00")
	hear(t, h, 2, subscribe(0, 5, "t"), subscribe(2, 6, "t\x00"))
	hear(t, h, 1, about(word.SubscribeOK, 1), about(word.SubscribeOK, 3))
	pass(t, h, 1, 0, object(0, 0, 4))
	pass(t, h, 1, 1, object(0, 0, 5))
	h.Out()
	checkUsed(t, h, 4+5+2*overhead)
	hear(t, h, 1, unannounce("t"))
	checkUsed(t, h, 5+overhead)
	h.Out()
	hear(t, h, 3, fetch(0, "t", at(0, 0), at(0, 0)), fetch(2, "t\x00", at(0, 0), at(0, 0)))
	_, g := h.Out()
	if len(g) != 2 || !sameGive(g[0], answer(3, 2, object(0, 0, 5))[0]) || !sameGive(g[1], end(3, 2)) {
		t.Fatalf("given is %+v", g)
	}
}

// Another peer may become the source of a name; the track is then another one, with its own number and objects.
func TestAnnounceAgain(t *testing.T) {
	h := feeding(t)
	pass(t, h, 1, 0, object(3, 3, 4))
	hear(t, h, 2, about(word.AnnounceOK, 1))
	hear(t, h, 1, unannounce("t"))
	h.Out()
	hear(t, h, 2, announce(2, "t"))
	checkSaid(t, h, to(2, about(word.AnnounceOK, 2)), to(1, announce(3, "t")), to(3, announce(3, "t")), to(4, announce(3, "t")))
	hear(t, h, 1, subscribe(2, 5, "t"))
	checkSaid(t, h, to(2, subscribe(3, 1, "t")))
	hear(t, h, 2, about(word.SubscribeOK, 3))
	checkSaid(t, h, to(1, about(word.SubscribeOK, 2)))
	checkObject(t, h, 1, 0, object(0, 0, 1), api.ErrNone)
	checkObject(t, h, 1, 1, object(0, 0, 1), api.ErrNone)
	checkObject(t, h, 2, 0, object(0, 0, 1), api.ErrNone)
	pass(t, h, 2, 1, object(0, 0, 1))
	checkGiven(t, h, given(1, 2, 5, object(0, 0, 1)))
}

// The Aliases of the feeds tell how many tracks were known before, also if those are not any more.
func TestAliases(t *testing.T) {
	h := serving(t, "d", "c")
	hear(t, h, 1, unannounce("d"))
	hear(t, h, 1, announce(4, "b"))
	hear(t, h, 2, announce(0, "c"), announce(2, "a"))
	h.Out()
	hear(t, h, 3, subscribe(0, 0, "a"), subscribe(2, 1, "b"), subscribe(4, 2, "c"))
	checkSaid(t, h, to(2, subscribe(7, 3, "a")), to(1, subscribe(3, 2, "b")), to(1, subscribe(5, 1, "c")))
}

// Answers to the hub's Announces, and whatever else has no effect, have none.
func TestNoEffect(t *testing.T) {
	h := feeding(t)
	hear(t, h, 2, about(word.AnnounceOK, 1), maxRequest(may+1))
	hear(t, h, 3, over(word.AnnounceError, 1, 7), about(word.AnnounceOK, 1))
	join(t, h, 5, false)
	hear(t, h, 5, setupFrom(true, 0))
	h.Out()
	hear(t, h, 5, about(word.Goaway, 0))
	checkSaid(t, h)
	checkPeers(t, h, 1, 2, 3, 4, 5)
	checkFeed(t, h, "t", granted, 1)
}

// An Announce that was not granted in time is not taken back.
func TestUnannounceTooEarly(t *testing.T) {
	h := serving(t, "t")
	hear(t, h, 1, unannounce("t"))
	h.Out()
	hear(t, h, 2, about(word.AnnounceOK, 1))
	checkSaid(t, h)
	hear(t, h, 2, subscribe(0, 5, "t"))
	checkSaid(t, h, to(2, over(word.SubscribeError, 0, 4)), to(2, maxRequest(lets+1)))
}

// The example of the chapter.
func TestExample(t *testing.T) {
	h := hubOf(t, 1, 2, 3)
	hear(t, h, 1, announce(0, "t"))
	h.Out()
	hear(t, h, 2, subscribe(0, 5, "t"))
	hear(t, h, 3, subscribe(0, 6, "t"))
	checkSaid(t, h, to(1, subscribe(1, 0, "t")))
	hear(t, h, 1, about(word.SubscribeOK, 1))
	checkSaid(t, h, to(2, about(word.SubscribeOK, 0)), to(3, about(word.SubscribeOK, 0)))
	pass(t, h, 1, 0, object(0, 0, 3))
	checkGiven(t, h, given(2, 0, 5, object(0, 0, 3)), given(3, 0, 6, object(0, 0, 3)))
	hear(t, h, 2, about(word.Unsubscribe, 0))
	checkSaid(t, h, to(2, maxRequest(lets+1)))
	hear(t, h, 3, about(word.Unsubscribe, 0))
	checkSaid(t, h, to(3, maxRequest(lets+1)), to(1, about(word.Unsubscribe, 1)))
	checkFeed(t, h, "t", none, 0)
}

// The source is not told of its own Unannounce, also if it has granted an Announce of that name before.
func TestUnannounceOfSource(t *testing.T) {
	h := serving(t, "t")
	hear(t, h, 2, about(word.AnnounceOK, 1))
	hear(t, h, 3, about(word.AnnounceOK, 1))
	hear(t, h, 1, unannounce("t"), announce(2, "t"), unannounce("t"), announce(4, "t"))
	hear(t, h, 2, about(word.AnnounceOK, 3), about(word.AnnounceOK, 5))
	hear(t, h, 1, unannounce("t"))
	h.Out()
	// The hub's Announce 3 or 5 is still granted by 2.
	hear(t, h, 2, announce(0, "t"))
	hear(t, h, 3, about(word.AnnounceOK, 7))
	h.Out()
	hear(t, h, 2, unannounce("t"))
	checkSaid(t, h, to(2, maxRequest(lets+1)), to(3, unannounce("t")))
}
