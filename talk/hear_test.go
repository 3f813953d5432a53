package talk_test

import (
	"strings"
	"testing"

	"colonnade/api"
	"colonnade/talk"
	"colonnade/word"
)

// DOC.md's example, and that of the chapter.
func TestExample(t *testing.T) {
	x := talk.New(true, 9)
	hear(t, x, clientSetup(9, 1), subscribe(0, 1))
	checkHear(t, x, subscribe(4, 2), api.SessionBadID)
	checkHear(t, x, subscribe(2, 2), api.SessionBadID)
	checkUp(t, x, false)
}

// The requests of the other side have its IDs, in order, whatever their kinds.
func TestIDsOfOther(t *testing.T) {
	for _, server := range []bool{false, true} {
		id := first(!server)
		make3 := func() *talk.Session {
			x := upOf(t, server, 9, 9)
			hear(t, x, request(word.Fetch, id), request(word.Subscribe, id+2), request(word.Announce, id+4))
			return x
		}
		for _, kind := range requestKinds {
			for _, wrong := range []uint64{id, id + 2, id + 4, id + 5, id + 7, id + 8, id ^ 1, top} {
				m := request(kind, wrong)
				m.Name = []byte("t")
				checkBroken(t, make3(), m, api.SessionBadID)
			}
			hear(t, make3(), request(kind, id+6))
			if id > 0 {
				checkBroken(t, upOf(t, server, 9, 9), request(kind, 0), api.SessionBadID)
			}
			checkBroken(t, upOf(t, server, 9, 9), request(kind, id+2), api.SessionBadID)
		}
	}
}

func TestTooMany(t *testing.T) {
	for _, server := range []bool{false, true} {
		id := first(!server)
		for _, kind := range requestKinds {
			checkBroken(t, upOf(t, server, 0, 9), request(kind, id), api.SessionTooMany)
			x := upOf(t, server, 3, 9)
			hear(t, x, request(kind, id), request(word.Subscribe, id+2), request(word.Fetch, id+4))
			checkBroken(t, x, request(kind, id+6), api.SessionTooMany)
		}
		// One more is permitted as soon as a request is over, before Out.
		x := upOf(t, server, 2, 9)
		hear(t, x, request(word.Subscribe, id), request(word.Subscribe, id+2), about(word.Unsubscribe, id), request(word.Fetch, id+4))
		checkBrokenWith(t, x, request(word.Fetch, id+6), api.SessionTooMany, maxRequest(3))
	}
}

// checkBrokenWith is checkBroken for a session that still has something to send.
func checkBrokenWith(t *testing.T, x *talk.Session, m word.Msg, want uint64, out ...word.Msg) {
	t.Helper()
	checkHear(t, x, m, want)
	checkOut(t, x, out...)
	checkBroken(t, x, m, want)
}

// The Subscribes of the other side that are not over have different aliases.
func TestAliasOfOther(t *testing.T) {
	for _, server := range []bool{false, true} {
		id := first(!server)
		begin := func() *talk.Session {
			x := upOf(t, server, 9, 9)
			say(t, x, subscribe(0, 5))
			hear(t, x, subscribe(id, 6), subscribe(id+2, 7))
			say(t, x, about(word.SubscribeOK, id))
			return x
		}
		checkBroken(t, begin(), subscribe(id+4, 6), api.SessionAlias)
		checkBroken(t, begin(), subscribe(id+4, 7), api.SessionAlias)
		other := subscribe(id+4, 7)
		other.Name, other.Order = []byte("u"), 2
		checkBroken(t, begin(), other, api.SessionAlias)
		hear(t, begin(), subscribe(id+4, 5))
		hear(t, begin(), subscribe(id+4, 0))
		hear(t, begin(), announce(id+4, "t"))
		hear(t, begin(), fetch(id+4))

		x := begin()
		say(t, x, about(word.SubscribeDone, id))
		hear(t, x, subscribe(id+4, 6))
		checkBrokenWith(t, x, subscribe(id+6, 6), api.SessionAlias, maxRequest(10))
		x = begin()
		say(t, x, about(word.SubscribeError, id+2))
		hear(t, x, subscribe(id+4, 7))
		x = begin()
		hear(t, x, about(word.Unsubscribe, id), subscribe(id+4, 6), about(word.Unsubscribe, id+2), subscribe(id+6, 7))
	}
	// An alias 0 is one like others.
	x := upOf(t, true, 9, 9)
	hear(t, x, announce(0, "t"), fetch(2), subscribe(4, 0))
	checkBroken(t, x, subscribe(6, 0), api.SessionAlias)
}

// Of several errors of a request the first of the table counts.
func TestOrderOfRequestErrors(t *testing.T) {
	full := func() *talk.Session {
		x := upOf(t, true, 1, 9)
		hear(t, x, subscribe(0, 5))
		return x
	}
	bad := subscribe(4, 5)
	bad.Order = 3
	checkBroken(t, full(), bad, api.SessionBroken)
	checkBroken(t, full(), subscribe(4, 5), api.SessionBadID)
	checkBroken(t, full(), subscribe(0, 5), api.SessionBadID)
	checkBroken(t, full(), subscribe(2, 5), api.SessionTooMany)
	checkBroken(t, full(), subscribe(2, 6), api.SessionTooMany)
	x := upOf(t, true, 2, 9)
	hear(t, x, subscribe(0, 5))
	checkBroken(t, x, subscribe(2, 5), api.SessionAlias)
}

func TestInvalidMessages(t *testing.T) {
	long := strings.Repeat("x", api.MaxName+1)
	for _, server := range []bool{false, true} {
		id := first(!server)
		order := subscribe(id, 1)
		order.Order = 0
		end := fetch(id)
		end.End = api.Place{}
		coded := about(word.Unsubscribe, id)
		coded.Code = 1
		for _, m := range []word.Msg{
			{}, {Kind: 2}, {Kind: 0x40}, {Kind: word.Goaway, ID: 1}, order, end, coded,
			announce(id, ""), announce(id, long), unannounce(""), unannounce(long), maxRequest(top + 1), about(word.SubscribeOK, top+1),
			{Kind: word.SubscribeDone, ID: id, Reason: []byte(strings.Repeat("x", api.MaxReason+1))},
		} {
			x := upOf(t, server, 9, 9)
			hear(t, x, subscribe(id, 1))
			checkBroken(t, x, m, api.SessionBroken)
		}
	}
}

// asked returns a session with own requests, one of each kind, of which the other side has heard nothing yet.
func asked(t *testing.T, server bool) *talk.Session {
	t.Helper()
	x := upOf(t, server, 9, 9)
	id := first(server)
	for i, kind := range requestKinds {
		m := request(kind, id+2*uint64(i))
		m.ID = 0
		if sent := say(t, x, m); sent.ID != id+2*uint64(i) {
			t.Fatalf("the ID is %d", sent.ID)
		}
	}
	return x
}

// heard returns a session with requests of the other side, one of each kind.
func heard(t *testing.T, server bool) *talk.Session {
	t.Helper()
	x := upOf(t, server, 9, 9)
	id := first(!server)
	for i, kind := range requestKinds {
		hear(t, x, request(kind, id+2*uint64(i)))
	}
	return x
}

// An OK or an Error is for an own request of its kind that is not granted.
func TestAnswers(t *testing.T) {
	for _, server := range []bool{false, true} {
		for i := range requestKinds {
			id := first(server) + 2*uint64(i)
			for _, answer := range []uint64{okKinds[i], errorKinds[i]} {
				x := asked(t, server)
				hear(t, x, about(answer, id))
				checkOut(t, x)
				if answer == okKinds[i] {
					checkState(t, x, id, talk.Granted)
					checkBroken(t, x, about(okKinds[i], id), api.SessionBroken)
					x = asked(t, server)
					hear(t, x, about(answer, id))
					checkBroken(t, x, about(errorKinds[i], id), api.SessionBroken)
					checkState(t, x, id, talk.Granted)
				} else {
					checkState(t, x, id, talk.Over)
					hear(t, x, about(okKinds[i], id), about(errorKinds[i], id))
					checkState(t, x, id, talk.Over)
					checkOut(t, x)
				}
				// No own request has these IDs, or it is of another kind.
				for _, wrong := range []uint64{(id + 2) % 6, (id + 4) % 6, id ^ 1, first(server) + 6, top} {
					checkBroken(t, asked(t, server), about(answer, wrong), api.SessionBroken)
				}
				checkBroken(t, heard(t, server), about(answer, id^1), api.SessionBroken)
			}
		}
	}
}

// A request that is over is still one of its kind.
func TestAnswersOfOtherKindToOver(t *testing.T) {
	for i := range requestKinds {
		for j := range requestKinds {
			for _, answer := range []uint64{okKinds[j], errorKinds[j]} {
				x := asked(t, false)
				id := 2 * uint64(i)
				hear(t, x, about(errorKinds[i], id))
				if i == j {
					hear(t, x, about(answer, id))
				} else {
					checkBroken(t, x, about(answer, id), api.SessionBroken)
				}
			}
		}
	}
}

func TestSubscribeDone(t *testing.T) {
	for _, server := range []bool{false, true} {
		id := first(server)
		begin := func() *talk.Session {
			x := asked(t, server)
			hear(t, x, about(word.AnnounceOK, id+2), about(word.FetchOK, id+4))
			return x
		}
		checkBroken(t, begin(), about(word.SubscribeDone, id), api.SessionBroken)
		x := begin()
		hear(t, x, about(word.SubscribeOK, id))
		done := word.Msg{Kind: word.SubscribeDone, ID: id, Code: 3, Reason: []byte("why")}
		hear(t, x, done)
		checkState(t, x, id, talk.Over)
		hear(t, x, done, about(word.SubscribeOK, id), about(word.SubscribeError, id), done)
		checkState(t, x, id, talk.Over)
		checkOut(t, x)
		for _, wrong := range []uint64{id + 2, id + 4, id + 6, id ^ 1, id + 1, top} {
			x := begin()
			hear(t, x, about(word.SubscribeOK, id))
			checkBroken(t, x, about(word.SubscribeDone, wrong), api.SessionBroken)
		}
	}
}

// Also one that is over because of this side.
func TestAnswersToOver(t *testing.T) {
	for _, server := range []bool{false, true} {
		id := first(server)
		for _, answers := range [][]word.Msg{{about(word.SubscribeOK, id), about(word.SubscribeDone, id)}, {about(word.SubscribeError, id)}, {about(word.SubscribeDone, id)}} {
			x := asked(t, server)
			say(t, x, about(word.Unsubscribe, id))
			hear(t, x, answers...)
			hear(t, x, answers...)
			checkState(t, x, id, talk.Over)
		}
		for _, answers := range [][]word.Msg{{about(word.FetchOK, id+4)}, {about(word.FetchError, id+4)}} {
			x := asked(t, server)
			say(t, x, about(word.FetchCancel, id+4))
			hear(t, x, answers...)
			hear(t, x, answers...)
			checkState(t, x, id+4, talk.Over)
		}
		x := asked(t, server)
		hear(t, x, about(word.FetchOK, id+4))
		checkFinish(t, x, id+4, true, api.OK)
		hear(t, x, about(word.FetchOK, id+4), about(word.FetchError, id+4))
		checkState(t, x, id+4, talk.Over)
	}
}

// An Unsubscribe and a FetchCancel are for a request of its kind that the other side made, in whatever state.
func TestCancels(t *testing.T) {
	for _, server := range []bool{false, true} {
		for i, cancel := range map[int]uint64{0: word.Unsubscribe, 2: word.FetchCancel} {
			id := first(!server) + 2*uint64(i)
			for _, answers := range [][]word.Msg{nil, {about(okKinds[i], id)}} {
				x := heard(t, server)
				say(t, x, answers...)
				hear(t, x, about(cancel, id))
				checkState(t, x, id, talk.Over)
				hear(t, x, about(cancel, id))
				checkState(t, x, id, talk.Over)
				checkOut(t, x, maxRequest(10))
			}
			x := heard(t, server)
			say(t, x, about(errorKinds[i], id))
			hear(t, x, about(cancel, id))
			checkState(t, x, id, talk.Over)
			checkOut(t, x, maxRequest(10))
			for _, wrong := range []uint64{id + 2, (id + 4) % 6, id ^ 1, first(!server) + 6, top} {
				checkBroken(t, heard(t, server), about(cancel, wrong), api.SessionBroken)
			}
			checkBroken(t, asked(t, server), about(cancel, id^1), api.SessionBroken)
		}
	}
}

// An Unannounce is for a granted Announce of that name.
func TestUnannounce(t *testing.T) {
	for _, server := range []bool{false, true} {
		id := first(!server) + 2
		name := nameOf(id)
		checkBroken(t, heard(t, server), unannounce(name), api.SessionBroken)
		granted := func() *talk.Session {
			x := heard(t, server)
			say(t, x, about(word.AnnounceOK, id))
			return x
		}
		checkBroken(t, granted(), unannounce(name+"x"), api.SessionBroken)
		checkBroken(t, granted(), unannounce(name[:len(name)-1]), api.SessionBroken)
		checkBroken(t, granted(), unannounce("t"), api.SessionBroken)
		x := granted()
		hear(t, x, unannounce(name))
		checkState(t, x, id, talk.Over)
		checkBrokenWith(t, x, unannounce(name), api.SessionBroken, maxRequest(10))
		x = heard(t, server)
		say(t, x, about(word.AnnounceError, id))
		checkBrokenWith(t, x, unannounce(name), api.SessionBroken, maxRequest(10))
		// Own ones and other requests of that name are none.
		x = asked(t, server)
		hear(t, x, about(word.AnnounceOK, first(server)+2))
		checkBroken(t, x, unannounce(nameOf(first(server)+2)), api.SessionBroken)
		x = upOf(t, server, 9, 9)
		hear(t, x, subscribe(first(!server), 1), fetch(first(!server)+2))
		say(t, x, about(word.SubscribeOK, first(!server)), about(word.FetchOK, first(!server)+2))
		checkBroken(t, x, unannounce("t"), api.SessionBroken)
	}
}

// Of several granted ones of a name the one that was made first is over, whichever was granted first.
func TestUnannounceOfSeveral(t *testing.T) {
	x := upOf(t, true, 9, 9)
	hear(t, x, announce(0, "t"), announce(2, "t"), announce(4, "u"), announce(6, "t"), announce(8, "t"))
	say(t, x, about(word.AnnounceOK, 8), about(word.AnnounceOK, 6), about(word.AnnounceOK, 4), about(word.AnnounceOK, 2))
	for _, id := range []uint64{2, 6} {
		hear(t, x, unannounce("t"))
		checkState(t, x, id, talk.Over)
	}
	say(t, x, about(word.AnnounceOK, 0))
	for _, id := range []uint64{0, 8} {
		checkState(t, x, id, talk.Granted)
		hear(t, x, unannounce("t"))
		checkState(t, x, id, talk.Over)
	}
	checkState(t, x, 4, talk.Granted)
	checkBrokenWith(t, x, unannounce("t"), api.SessionBroken, maxRequest(10), maxRequest(11), maxRequest(12), maxRequest(13))
}

func TestMaxRequest(t *testing.T) {
	for _, server := range []bool{false, true} {
		for _, n := range []uint64{0, 1, 4, 5} {
			checkBroken(t, upOf(t, server, 9, 5), maxRequest(n), api.SessionBroken)
		}
		for _, n := range []uint64{6, 7, 1000, most, most + 1, top} {
			x := upOf(t, server, 9, 5)
			hear(t, x, maxRequest(n))
			checkBroken(t, x, maxRequest(n), api.SessionBroken)
		}
		x := upOf(t, server, 9, 0)
		checkSay(t, x, fetch(0), api.ErrCredit)
		hear(t, x, maxRequest(1))
		say(t, x, fetch(0))
		checkSay(t, x, fetch(0), api.ErrCredit)
		hear(t, x, maxRequest(3))
		say(t, x, fetch(0), fetch(0))
		checkSay(t, x, fetch(0), api.ErrCredit)
		checkOut(t, x)
		// The number is the one before, not how many were made.
		checkBroken(t, x, maxRequest(3), api.SessionBroken)
	}
}

// A number above 2^60 counts as 2^60.
func TestLargestMaxRequest(t *testing.T) {
	for _, n := range []uint64{most, most + 1, most + 2, top} {
		for _, m := range []uint64{most, most + 1, most + 3, top} {
			checkBroken(t, upOf(t, false, 9, n), maxRequest(m), api.SessionBroken)
			x := upOf(t, true, 9, most-1)
			hear(t, x, maxRequest(n))
			checkBroken(t, x, maxRequest(m), api.SessionBroken)
			x = upOf(t, true, 9, most-2)
			hear(t, x, maxRequest(most-1), maxRequest(m))
		}
	}
}

func TestGoaway(t *testing.T) {
	checkBroken(t, heard(t, true), word.Msg{Kind: word.Goaway}, api.SessionBroken)
	x := asked(t, false)
	own := x.Asks(true)
	hear(t, x, word.Msg{Kind: word.Goaway}, word.Msg{Kind: word.Goaway}, subscribe(1, 1))
	checkAsks(t, x, true, own...)
	say(t, x, fetch(0))
	checkOut(t, x)
}

// The first error stays, whatever comes after it.
func TestFirstCodeStays(t *testing.T) {
	wrong := map[uint64]word.Msg{
		api.SessionBroken:  {},
		api.SessionBadID:   subscribe(4, 2),
		api.SessionTooMany: subscribe(2, 2),
		api.SessionAlias:   subscribe(2, 1),
	}
	for code, m := range wrong {
		lets := uint64(1)
		if code == api.SessionAlias {
			lets = 2
		}
		x := upOf(t, true, lets, 9)
		hear(t, x, subscribe(0, 1))
		checkHear(t, x, m, code)
		for _, m := range wrong {
			checkHear(t, x, m, code)
		}
		checkHear(t, x, about(word.Unsubscribe, 0), code)
		checkState(t, x, 0, talk.Waiting)
		checkState(t, x, 2, 0)
		checkOut(t, x)
	}
}
