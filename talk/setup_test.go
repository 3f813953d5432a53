package talk_test

import (
	"math"
	"testing"

	"colonnade/api"
	"colonnade/talk"
	"colonnade/word"
)

func TestClientBegins(t *testing.T) {
	x := talk.New(false, 7)
	checkUp(t, x, false)
	checkOut(t, x, clientSetup(7, 1))
	hear(t, x, serverSetup(3, 1))
	checkUp(t, x, true)
	checkOut(t, x)
}

func TestServerAnswers(t *testing.T) {
	x := talk.New(true, 7)
	checkUp(t, x, false)
	checkOut(t, x)
	hear(t, x, clientSetup(3, 1))
	checkUp(t, x, true)
	checkOut(t, x, serverSetup(7, 1))
}

// A Setup is produced, whether or not Out was called since.
func TestUpWithoutOut(t *testing.T) {
	for _, server := range []bool{false, true} {
		x := talk.New(server, 7)
		hear(t, x, setupFrom(!server, 1))
		checkUp(t, x, true)
		id := first(server)
		if m := say(t, x, subscribe(0, 1)); m.ID != id {
			t.Fatalf("the ID is %d", m.ID)
		}
		checkOut(t, x, setupFrom(server, 7))
	}
}

// A side permits at most 2^60 requests.
func TestLets(t *testing.T) {
	for lets, want := range map[uint64]uint64{0: 0, 1: 1, 63: 63, most - 1: most - 1, most: most, most + 1: most, top: most, top + 1: most, math.MaxUint64: most} {
		for _, server := range []bool{false, true} {
			x := talk.New(server, lets)
			hear(t, x, setupFrom(!server, 0))
			checkOut(t, x, setupFrom(server, want))
		}
	}
}

// Whatever comes first closes the session, but the other side's Setup.
func TestFirstMessage(t *testing.T) {
	all := []word.Msg{
		{}, {Kind: word.Goaway}, clientSetup(1, 1), serverSetup(1, 1), maxRequest(9), unannounce("t"),
		request(word.Subscribe, 0), request(word.Subscribe, 1), request(word.Announce, 0), request(word.Announce, 1), request(word.Fetch, 0), request(word.Fetch, 1),
		about(word.SubscribeOK, 0), about(word.SubscribeError, 1), about(word.AnnounceOK, 0), about(word.AnnounceError, 1), about(word.FetchOK, 0), about(word.FetchError, 1),
		about(word.SubscribeDone, 0), about(word.Unsubscribe, 0), about(word.FetchCancel, 1),
	}
	for _, server := range []bool{false, true} {
		for _, m := range all {
			if m.Kind == setupFrom(!server, 1).Kind {
				continue
			}
			x := talk.New(server, 5)
			x.Out()
			checkBroken(t, x, m, api.SessionBroken)
			checkBroken(t, x, setupFrom(!server, 1), api.SessionBroken)
		}
	}
}

func TestSetupAgain(t *testing.T) {
	for _, server := range []bool{false, true} {
		for _, m := range []word.Msg{clientSetup(1, 1), serverSetup(1, 1), clientSetup(9, 1), serverSetup(9, 1), clientSetup(1, 2), serverSetup(1, 2)} {
			checkBroken(t, upOf(t, server, 5, 1), m, api.SessionBroken)
		}
	}
}

func TestVersions(t *testing.T) {
	for _, m := range []word.Msg{clientSetup(1, 0), clientSetup(1, 2), clientSetup(1, 0, 2, 3, 4, 5, 6, 7, top)} {
		x := talk.New(true, 5)
		checkBroken(t, x, m, api.SessionVersion)
		checkBroken(t, x, clientSetup(1, 1), api.SessionVersion)
	}
	for _, m := range []word.Msg{clientSetup(1, 1), clientSetup(1, 1, 1), clientSetup(1, 2, 1), clientSetup(1, 0, 2, 3, 4, 5, 6, 7, 1)} {
		x := talk.New(true, 5)
		hear(t, x, m)
		checkOut(t, x, serverSetup(5, 1))
		checkUp(t, x, true)
	}
	for _, n := range []uint64{0, 2, 257, top} {
		x := talk.New(false, 5)
		x.Out()
		checkBroken(t, x, serverSetup(1, n), api.SessionVersion)
		checkBroken(t, x, serverSetup(1, 1), api.SessionVersion)
	}
}

// A message must be valid before anything else of it is looked at.
func TestInvalidSetup(t *testing.T) {
	named := clientSetup(1, 2)
	named.Name = []byte("t")
	for _, m := range []word.Msg{clientSetup(1), clientSetup(1, 2, 2, 2, 2, 2, 2, 2, 2, 2), clientSetup(top+1, 2), clientSetup(1, 2, top+1), named} {
		checkBroken(t, talk.New(true, 5), m, api.SessionBroken)
	}
	for _, m := range []word.Msg{serverSetup(top+1, 2), serverSetup(1, top+1), {Kind: word.ServerSetup, Version: 2, ID: 1}} {
		x := talk.New(false, 5)
		x.Out()
		checkBroken(t, x, m, api.SessionBroken)
	}
}

// What a session has to send when it is closed is still there.
func TestOutOfClosed(t *testing.T) {
	x := talk.New(false, 5)
	checkHear(t, x, maxRequest(1), api.SessionBroken)
	checkOut(t, x, clientSetup(5, 1))

	x = talk.New(true, 5)
	hear(t, x, clientSetup(1, 1), subscribe(0, 1), about(word.Unsubscribe, 0))
	checkHear(t, x, subscribe(0, 1), api.SessionBadID)
	checkOut(t, x, serverSetup(5, 1), maxRequest(6))
}
