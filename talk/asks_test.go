package talk_test

import (
	"math"
	"testing"

	"colonnade/api"
	"colonnade/talk"
	"colonnade/word"
)

func waiting(m word.Msg) talk.Ask { return talk.Ask{Msg: m, State: talk.Waiting} }
func granted(m word.Msg) talk.Ask { return talk.Ask{Msg: m, State: talk.Granted} }

// Asks returns the requests that are not over, by increasing ID; Find returns all that were ever made.
func TestAsks(t *testing.T) {
	for _, server := range []bool{false, true} {
		x := upOf(t, server, 9, 9)
		own, other := first(server), first(!server)
		checkAsks(t, x, true)
		checkAsks(t, x, false)
		for i := range uint64(5) {
			m := request(requestKinds[i%3], own+2*i)
			m.ID = 0
			say(t, x, m)
			hear(t, x, request(requestKinds[i*2%3], other+2*i))
		}
		mine := func(i uint64) word.Msg { return request(requestKinds[i%3], own+2*i) }
		theirs := func(i uint64) word.Msg { return request(requestKinds[i*2%3], other+2*i) }
		checkAsks(t, x, true, waiting(mine(0)), waiting(mine(1)), waiting(mine(2)), waiting(mine(3)), waiting(mine(4)))
		checkAsks(t, x, false, waiting(theirs(0)), waiting(theirs(1)), waiting(theirs(2)), waiting(theirs(3)), waiting(theirs(4)))
		hear(t, x, about(word.AnnounceOK, own+8), about(word.SubscribeError, own), about(word.FetchOK, own+4))
		checkAsks(t, x, true, waiting(mine(1)), granted(mine(2)), waiting(mine(3)), granted(mine(4)))
		say(t, x, about(word.AnnounceError, other+4), about(word.SubscribeOK, other+6), about(word.FetchError, other+8))
		checkAsks(t, x, false, waiting(theirs(0)), waiting(theirs(1)), granted(theirs(3)))
		say(t, x, about(word.Unsubscribe, own+6), unannounce(nameOf(own+8)))
		checkAsks(t, x, true, waiting(mine(1)), granted(mine(2)))
		for i, state := range []int{talk.Over, talk.Waiting, talk.Granted, talk.Over, talk.Over} {
			id := own + 2*uint64(i)
			a, ok := x.Find(id)
			if want := (talk.Ask{Msg: mine(uint64(i)), State: state}); !ok || !sameAsk(a, want) {
				t.Fatalf("Find(%d) = %+v, %t; want %+v", id, a, ok, want)
			}
		}
		for i, state := range []int{talk.Waiting, talk.Waiting, talk.Over, talk.Granted, talk.Over} {
			checkState(t, x, other+2*uint64(i), state)
		}
		for _, id := range []uint64{10, 11, 12, top, 1 << 63, math.MaxUint64 - 1, math.MaxUint64} {
			checkState(t, x, id, 0)
		}
	}
}

// After each request of the other side that becomes over, one more is permitted.
func TestOneMore(t *testing.T) {
	for _, server := range []bool{false, true} {
		x := upOf(t, server, 6, 9)
		id := first(!server)
		hear(t, x, subscribe(id, 1), announce(id+2, "t"), fetch(id+4), subscribe(id+6, 2), announce(id+8, "u"), fetch(id+10))
		say(t, x, about(word.SubscribeOK, id+6), about(word.AnnounceOK, id+8), about(word.FetchOK, id+10))
		checkOut(t, x)
		say(t, x, about(word.SubscribeError, id))
		checkOut(t, x, maxRequest(7))
		say(t, x, about(word.AnnounceError, id+2), about(word.FetchError, id+4))
		hear(t, x, about(word.Unsubscribe, id+6))
		checkOut(t, x, maxRequest(8), maxRequest(9), maxRequest(10))
		hear(t, x, unannounce("u"))
		checkFinish(t, x, id+10, false, api.OK)
		hear(t, x, subscribe(id+12, 1), fetch(id+14), subscribe(id+16, 2))
		say(t, x, about(word.SubscribeOK, id+12), about(word.SubscribeDone, id+12))
		hear(t, x, about(word.FetchCancel, id+14), about(word.Unsubscribe, id+16))
		checkOut(t, x, maxRequest(11), maxRequest(12), maxRequest(13), maxRequest(14), maxRequest(15))
		checkAsks(t, x, false)
		// Fifteen in total, of which nine were made.
		for i := range uint64(6) {
			hear(t, x, fetch(id+18+2*i))
		}
		checkBroken(t, x, fetch(id+30), api.SessionTooMany)
	}
}

// For own requests that are over none are permitted.
func TestOwnPermitNothing(t *testing.T) {
	x := upOf(t, true, 2, 9)
	say(t, x, subscribe(0, 1), announce(0, "t"), fetch(0), fetch(0))
	hear(t, x, about(word.SubscribeError, 1), about(word.AnnounceOK, 3), about(word.FetchOK, 5))
	say(t, x, unannounce("t"), about(word.FetchCancel, 7))
	checkFinish(t, x, 5, true, api.OK)
	checkAsks(t, x, true)
	checkOut(t, x)
	hear(t, x, fetch(0), fetch(2))
	checkBroken(t, x, fetch(4), api.SessionTooMany)
}

// More than 2^60 are never announced: that would be no larger number for the other side, which would close the session.
func TestNoMoreThanMost(t *testing.T) {
	for _, lets := range []uint64{most, most + 1, math.MaxUint64} {
		x := upOf(t, true, lets, 9)
		hear(t, x, subscribe(0, 1), about(word.Unsubscribe, 0))
		checkState(t, x, 0, talk.Over)
		checkOut(t, x)
	}
	x, y := talk.New(true, most-1), talk.New(false, 9)
	hear(t, x, y.Out()...)
	hear(t, y, x.Out()...)
	for range 3 {
		hear(t, x, say(t, y, subscribe(0, 1)))
		m := y.Asks(true)[0].Msg
		hear(t, x, say(t, y, about(word.Unsubscribe, m.ID)))
		hear(t, y, x.Out()...)
	}
	checkUp(t, y, true)
	x = upOf(t, true, most-1, 9)
	hear(t, x, fetch(0), fetch(2), about(word.FetchCancel, 0), about(word.FetchCancel, 2))
	checkOut(t, x, maxRequest(most))
}

func TestFinish(t *testing.T) {
	for _, server := range []bool{false, true} {
		for _, own := range []bool{false, true} {
			x, id := heard(t, server), first(!server)
			grant := func(kind, id uint64) { say(t, x, about(kind, id)) }
			if own {
				x, id = asked(t, server), first(server)
				grant = func(kind, id uint64) { hear(t, x, about(kind, id)) }
			}
			checkFinish(t, x, id+4, own, api.ErrNone)
			checkState(t, x, id+4, talk.Waiting)
			grant(word.SubscribeOK, id)
			grant(word.AnnounceOK, id+2)
			grant(word.FetchOK, id+4)
			for _, wrong := range []uint64{id, id + 2, id + 6, id ^ 1, (id ^ 1) + 4, top, math.MaxUint64} {
				checkFinish(t, x, wrong, own, api.ErrNone)
			}
			checkFinish(t, x, id+4, !own, api.ErrNone)
			checkState(t, x, id+4, talk.Granted)
			checkOut(t, x)
			checkFinish(t, x, id+4, own, api.OK)
			checkState(t, x, id+4, talk.Over)
			checkState(t, x, id, talk.Granted)
			checkState(t, x, id+2, talk.Granted)
			checkFinish(t, x, id+4, own, api.ErrNone)
			if own {
				checkOut(t, x)
				checkSay(t, x, about(word.FetchCancel, id+4), api.ErrNone)
			} else {
				checkOut(t, x, maxRequest(10))
				hear(t, x, about(word.FetchCancel, id+4))
				checkOut(t, x)
			}
		}
	}
}

// What was asked for can still be found and finished when the session is closed.
func TestClosed(t *testing.T) {
	x := heard(t, true)
	say(t, x, about(word.FetchOK, 4))
	checkHear(t, x, word.Msg{}, api.SessionBroken)
	checkState(t, x, 4, talk.Granted)
	checkFinish(t, x, 4, false, api.OK)
	checkFinish(t, x, 4, false, api.ErrNone)
	checkState(t, x, 4, talk.Over)
	checkAsks(t, x, false, waiting(request(word.Subscribe, 0)), waiting(request(word.Announce, 2)))
	if x.Code() != api.SessionBroken {
		t.Fatalf("Code() = %x", x.Code())
	}
}

func TestNil(t *testing.T) {
	var x *talk.Session
	for _, m := range []word.Msg{{}, clientSetup(1, 1), serverSetup(1, 2), subscribe(0, 1), maxRequest(1)} {
		checkHear(t, x, m, 0)
		checkSay(t, x, m, api.ErrNone)
	}
	checkOut(t, x)
	checkFinish(t, x, 0, false, api.ErrNone)
	checkFinish(t, x, 0, true, api.ErrNone)
	checkAsks(t, x, false)
	checkAsks(t, x, true)
	checkState(t, x, 0, 0)
	checkUp(t, x, false)
	if x.Code() != 0 {
		t.Fatalf("Code() = %x", x.Code())
	}
}
