package talk_test

import (
	"strings"
	"testing"

	"colonnade/api"
	"colonnade/talk"
	"colonnade/word"
)

// Own requests have the IDs of this side, in order, whatever their kinds.
func TestOwnIDs(t *testing.T) {
	for _, server := range []bool{false, true} {
		x := upOf(t, server, 0, 100)
		for i := range uint64(100) {
			m := request(requestKinds[i%7%3], i)
			m.ID = 0
			if sent := say(t, x, m); sent.ID != first(server)+2*i {
				t.Fatalf("request %d has the ID %d", i, sent.ID)
			}
		}
		if l := x.Asks(true); len(l) != 100 {
			t.Fatalf("there are %d requests", len(l))
		}
	}
}

// A request that is refused has no ID.
func TestRefusedHasNoID(t *testing.T) {
	x := upOf(t, false, 9, 2)
	say(t, x, subscribe(0, 1))
	checkSay(t, x, subscribe(0, 1), api.ErrExists)
	checkSay(t, x, subscribe(2, 2), api.ErrForm)
	checkSay(t, x, announce(0, ""), api.ErrForm)
	if m := say(t, x, fetch(0)); m.ID != 2 {
		t.Fatalf("the ID is %d", m.ID)
	}
	checkSay(t, x, fetch(0), api.ErrCredit)
	checkState(t, x, 4, 0)
	hear(t, x, maxRequest(3))
	if m := say(t, x, fetch(0)); m.ID != 4 {
		t.Fatalf("the ID is %d", m.ID)
	}
}

// Messages that are invalid, and those that the session sends by itself, are ErrForm whatever else is wrong, but that the session is closed.
func TestSayForm(t *testing.T) {
	order := subscribe(0, 1)
	order.Order = 3
	numbered := about(word.FetchOK, 1)
	numbered.N = 1
	l := []word.Msg{
		{}, {Kind: 2}, {Kind: 0x40}, {Kind: word.Goaway, ID: 1}, order, numbered,
		announce(0, ""), announce(0, strings.Repeat("x", api.MaxName+1)), unannounce(""), about(word.Unsubscribe, top+1),
		clientSetup(9, 1), clientSetup(9), serverSetup(9, 1), serverSetup(9, 2), maxRequest(0), maxRequest(99), maxRequest(top + 1),
	}
	for _, kind := range requestKinds {
		for _, id := range []uint64{1, 2, 3, 4, top, top + 1} {
			l = append(l, request(kind, id%5+1), request(kind, 9))
			l[len(l)-1].ID = id
			l[len(l)-1].Alias = 0
		}
	}
	for _, server := range []bool{false, true} {
		for _, m := range l {
			checkSay(t, talk.New(server, 9), m, api.ErrForm)
			checkSay(t, upOf(t, server, 9, 0), m, api.ErrForm)
			x := upOf(t, server, 9, 9)
			say(t, x, subscribe(0, 1))
			checkSay(t, x, m, api.ErrForm)
			checkOut(t, x)
			checkHear(t, x, word.Msg{}, api.SessionBroken)
			checkSay(t, x, m, api.ErrClosed)
		}
	}
}

// Nothing is said before the session is Up. Messages about a request are ErrNone then, as there is none.
func TestSayBeforeUp(t *testing.T) {
	for _, server := range []bool{false, true} {
		x := talk.New(server, 9)
		for range 2 {
			for _, kind := range requestKinds {
				checkSay(t, x, request(kind, 0), api.ErrState)
			}
			checkSay(t, x, word.Msg{Kind: word.Goaway}, api.ErrState)
			for _, kind := range aboutKinds {
				checkSay(t, x, about(kind, 0), api.ErrNone)
				checkSay(t, x, about(kind, 1), api.ErrNone)
			}
			checkSay(t, x, unannounce("t"), api.ErrNone)
			x.Out()
		}
		hear(t, x, setupFrom(!server, 1))
		if m := say(t, x, subscribe(0, 1)); m.ID != first(server) {
			t.Fatalf("the ID is %d", m.ID)
		}
	}
}

// aboutKinds are the kinds of messages that name a request by its ID.
var aboutKinds = []uint64{
	word.SubscribeOK, word.SubscribeError, word.AnnounceOK, word.AnnounceError, word.FetchOK, word.FetchError,
	word.SubscribeDone, word.Unsubscribe, word.FetchCancel,
}

func TestSayWhenClosed(t *testing.T) {
	for _, server := range []bool{false, true} {
		x := asked(t, server)
		other := first(!server)
		hear(t, x, subscribe(other, 1), about(word.AnnounceOK, first(server)+2))
		own, others := x.Asks(true), x.Asks(false)
		checkHear(t, x, subscribe(other, 1), api.SessionBadID)
		for _, kind := range aboutKinds {
			for id := range uint64(6) {
				checkSay(t, x, about(kind, id), api.ErrClosed)
			}
		}
		for _, m := range []word.Msg{subscribe(0, 9), announce(0, "t"), fetch(0), unannounce(nameOf(first(server) + 2)), {Kind: word.Goaway}, {}} {
			checkSay(t, x, m, api.ErrClosed)
		}
		checkAsks(t, x, true, own...)
		checkAsks(t, x, false, others...)
		checkOut(t, x)
	}
	// Also before it was Up.
	x := talk.New(true, 9)
	checkHear(t, x, serverSetup(9, 1), api.SessionBroken)
	checkSay(t, x, fetch(0), api.ErrClosed)
	checkSay(t, x, fetch(1), api.ErrClosed)
}

func TestSayGoaway(t *testing.T) {
	checkSay(t, upOf(t, false, 9, 9), word.Msg{Kind: word.Goaway}, api.ErrState)
	x := upOf(t, true, 9, 9)
	say(t, x, word.Msg{Kind: word.Goaway}, word.Msg{Kind: word.Goaway}, subscribe(0, 1))
	checkOut(t, x)
}

// The own Subscribes that are not over have different aliases.
func TestOwnAlias(t *testing.T) {
	for _, server := range []bool{false, true} {
		id := first(server)
		begin := func() *talk.Session {
			x := upOf(t, server, 9, 4)
			hear(t, x, subscribe(first(!server), 5))
			say(t, x, subscribe(0, 6), subscribe(0, 0))
			hear(t, x, about(word.SubscribeOK, id))
			checkSay(t, x, subscribe(0, 6), api.ErrExists)
			checkSay(t, x, subscribe(0, 0), api.ErrExists)
			return x
		}
		other := subscribe(0, 6)
		other.Name, other.Order = []byte("u"), 2
		checkSay(t, begin(), other, api.ErrExists)
		x := begin()
		say(t, x, announce(0, "t"), fetch(0))
		// ErrExists is a smaller number than ErrCredit.
		checkSay(t, x, subscribe(0, 6), api.ErrExists)
		checkSay(t, x, subscribe(0, 5), api.ErrCredit)
		say(t, begin(), subscribe(0, 5))

		x = begin()
		say(t, x, about(word.Unsubscribe, id), subscribe(0, 6))
		checkSay(t, x, subscribe(0, 6), api.ErrExists)
		x = begin()
		hear(t, x, about(word.SubscribeDone, id))
		say(t, x, subscribe(0, 6))
		x = begin()
		hear(t, x, about(word.SubscribeError, id+2))
		say(t, x, subscribe(0, 0))
	}
}

func TestOwnCredit(t *testing.T) {
	for _, server := range []bool{false, true} {
		for _, kind := range requestKinds {
			checkSay(t, upOf(t, server, 9, 0), request(kind, 0), api.ErrCredit)
			x := upOf(t, server, 9, 2)
			say(t, x, request(kind, 0), fetch(0))
			m := request(kind, 8)
			m.ID = 0
			checkSay(t, x, m, api.ErrCredit)
			// Those that are over count, too.
			hear(t, x, about(word.FetchError, first(server)+2))
			checkSay(t, x, m, api.ErrCredit)
			hear(t, x, maxRequest(3))
			say(t, x, m)
		}
	}
}

// An OK or an Error is for a waiting request of its kind of the other side.
func TestSayAnswers(t *testing.T) {
	for _, server := range []bool{false, true} {
		for i := range requestKinds {
			id := first(!server) + 2*uint64(i)
			for _, answer := range []uint64{okKinds[i], errorKinds[i]} {
				x := heard(t, server)
				for _, wrong := range []uint64{(id + 2) % 6, (id + 4) % 6, id ^ 1, first(!server) + 6, top} {
					checkSay(t, x, about(answer, wrong), api.ErrNone)
				}
				say(t, x, about(answer, id))
				if answer == okKinds[i] {
					checkState(t, x, id, talk.Granted)
					checkOut(t, x)
				} else {
					checkState(t, x, id, talk.Over)
					checkOut(t, x, maxRequest(10))
				}
				checkSay(t, x, about(okKinds[i], id), api.ErrNone)
				checkSay(t, x, about(errorKinds[i], id), api.ErrNone)
				checkOut(t, x)
				// Own ones are answered by the other side.
				checkSay(t, asked(t, server), about(answer, id^1), api.ErrNone)
			}
		}
		x := heard(t, server)
		id := first(!server)
		hear(t, x, about(word.Unsubscribe, id), about(word.FetchCancel, id+4))
		for _, m := range []word.Msg{about(word.SubscribeOK, id), about(word.SubscribeError, id), about(word.FetchOK, id+4), about(word.FetchError, id+4)} {
			checkSay(t, x, m, api.ErrNone)
		}
	}
}

// What is said is sent as it is.
func TestSayFields(t *testing.T) {
	x := heard(t, true)
	m := word.Msg{Kind: word.SubscribeOK, ID: 0, Some: true, Start: api.Place{Group: 3, Object: 4}}
	say(t, x, m, word.Msg{Kind: word.SubscribeDone, ID: 0, Code: 4, Reason: []byte("why")}, word.Msg{Kind: word.AnnounceError, ID: 2, Code: top, Reason: []byte("no")})
	m = word.Msg{Kind: word.Subscribe, Alias: 70, Name: []byte("ab"), Priority: 9, Order: 2, Start: api.Place{Group: 1, Object: 2}, End: api.Place{Group: 3}}
	sent := say(t, x, m)
	a, ok := x.Find(sent.ID)
	if !ok || !sameAsk(a, talk.Ask{Msg: sent, State: talk.Waiting}) {
		t.Fatalf("Find(%d) = %+v, %t", sent.ID, a, ok)
	}
}

func TestSaySubscribeDone(t *testing.T) {
	for _, server := range []bool{false, true} {
		x := heard(t, server)
		id := first(!server)
		checkSay(t, x, about(word.SubscribeDone, id), api.ErrNone)
		say(t, x, about(word.SubscribeOK, id), about(word.AnnounceOK, id+2), about(word.FetchOK, id+4))
		for _, wrong := range []uint64{id + 2, id + 4, id + 6, id ^ 1, top} {
			checkSay(t, x, about(word.SubscribeDone, wrong), api.ErrNone)
		}
		checkOut(t, x)
		say(t, x, about(word.SubscribeDone, id))
		checkState(t, x, id, talk.Over)
		checkOut(t, x, maxRequest(10))
		checkSay(t, x, about(word.SubscribeDone, id), api.ErrNone)

		x = heard(t, server)
		say(t, x, about(word.SubscribeOK, id))
		hear(t, x, about(word.Unsubscribe, id))
		checkSay(t, x, about(word.SubscribeDone, id), api.ErrNone)
		x = asked(t, server)
		hear(t, x, about(word.SubscribeOK, id^1))
		checkSay(t, x, about(word.SubscribeDone, id^1), api.ErrNone)
	}
}

func TestSayCancels(t *testing.T) {
	for _, server := range []bool{false, true} {
		for i, cancel := range map[int]uint64{0: word.Unsubscribe, 2: word.FetchCancel} {
			id := first(server) + 2*uint64(i)
			for _, granted := range []bool{false, true} {
				x := asked(t, server)
				if granted {
					hear(t, x, about(okKinds[i], id))
				}
				for _, wrong := range []uint64{(id + 2) % 6, (id + 4) % 6, id ^ 1, first(server) + 6, top} {
					checkSay(t, x, about(cancel, wrong), api.ErrNone)
				}
				say(t, x, about(cancel, id))
				checkState(t, x, id, talk.Over)
				checkSay(t, x, about(cancel, id), api.ErrNone)
				checkOut(t, x)
			}
			x := asked(t, server)
			hear(t, x, about(errorKinds[i], id))
			checkSay(t, x, about(cancel, id), api.ErrNone)
			checkSay(t, heard(t, server), about(cancel, id^1), api.ErrNone)
		}
	}
}

func TestSayUnannounce(t *testing.T) {
	for _, server := range []bool{false, true} {
		x := asked(t, server)
		id := first(server) + 2
		name := nameOf(id)
		checkSay(t, x, unannounce(name), api.ErrNone)
		hear(t, x, about(word.AnnounceOK, id))
		for _, wrong := range []string{name + "x", name[:len(name)-1], "t"} {
			checkSay(t, x, unannounce(wrong), api.ErrNone)
		}
		say(t, x, unannounce(name))
		checkState(t, x, id, talk.Over)
		checkSay(t, x, unannounce(name), api.ErrNone)
		checkOut(t, x)

		x = asked(t, server)
		hear(t, x, about(word.AnnounceError, id))
		checkSay(t, x, unannounce(name), api.ErrNone)
		x = heard(t, server)
		other := first(!server) + 2
		say(t, x, about(word.AnnounceOK, other))
		checkSay(t, x, unannounce(nameOf(other)), api.ErrNone)
		x = asked(t, server)
		hear(t, x, about(word.SubscribeOK, id-2), about(word.FetchOK, id+2))
		checkSay(t, x, unannounce("t"), api.ErrNone)
	}
}

// Of several granted ones of a name the one that was made first is over.
func TestSayUnannounceOfSeveral(t *testing.T) {
	x := upOf(t, false, 9, 9)
	say(t, x, announce(0, "t"), announce(0, "t"), announce(0, "u"), announce(0, "t"), announce(0, "t"))
	hear(t, x, about(word.AnnounceOK, 8), about(word.AnnounceOK, 6), about(word.AnnounceOK, 4), about(word.AnnounceOK, 2))
	for _, id := range []uint64{2, 6} {
		say(t, x, unannounce("t"))
		checkState(t, x, id, talk.Over)
	}
	hear(t, x, about(word.AnnounceOK, 0))
	for _, id := range []uint64{0, 8} {
		checkState(t, x, id, talk.Granted)
		say(t, x, unannounce("t"))
		checkState(t, x, id, talk.Over)
	}
	checkSay(t, x, unannounce("t"), api.ErrNone)
	checkState(t, x, 4, talk.Granted)
}
