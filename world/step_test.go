package world_test

import (
	"math"
	"testing"

	"colonnade/api"
	"colonnade/line"
	"colonnade/word"
	"colonnade/world"
)

// With one hub and two ends: 0 announces t, 1 subscribes, Calm, 0 publishes 0/0, Calm: 1 has received it.
func TestExample(t *testing.T) {
	w, e := world.New(world.Config{Hubs: 1, Homes: []int{0, 0}, Room: 100, Lets: 5, Late: 1})
	checkErrno(t, "New", e, api.OK)
	calm(t, w)
	do(t, w, announce(0, "t"))
	calm(t, w)
	do(t, w, subscribe(1, "t", 0))
	calm(t, w)
	do(t, w, publish(0, "t", object(0, 0)))
	calm(t, w)
	checkGot(t, w, 1, got(0, "t", object(0, 0)))
	checkGot(t, w, 0)
}

func TestAnnounceAndWithdraw(t *testing.T) {
	w := newWorld(t, row(2))
	settle(t, w, announce(0, "t"), announce(2, "u"))
	checkAsks(t, w, 0, ask{word.Announce, 0, 2})
	for n := range 2 {
		if l := w.Hub(n).Tracks(); len(l) != 2 || string(l[0]) != "t" || string(l[1]) != "u" {
			t.Fatalf("hub %d has the tracks %q", n, l)
		}
	}
	settle(t, w, subscribe(1, "u", 0), withdraw(2, "u"))
	checkAsks(t, w, 2)
	// The users are told.
	checkAsks(t, w, 1)
	for n := range 2 {
		if l := w.Hub(n).Tracks(); len(l) != 1 || string(l[0]) != "t" {
			t.Fatalf("hub %d has the tracks %q", n, l)
		}
	}
	// Another one may announce it now.
	settle(t, w, announce(1, "u"), subscribe(2, "u", 0), publish(1, "u", object(0, 0)))
	checkGot(t, w, 2, got(2, "u", object(0, 0)))
}

// A track is announced from the step on, until that is rejected.
func TestRejectedAnnounce(t *testing.T) {
	w := newWorld(t, one())
	checkDo(t, w, publish(1, "t", object(0, 0)), api.ErrNone)
	settle(t, w, announce(0, "t"))
	do(t, w, announce(1, "t"), publish(1, "t", object(0, 0)))
	calm(t, w)
	checkAsks(t, w, 1)
	checkDo(t, w, publish(1, "t", object(0, 1)), api.ErrNone)
	do(t, w, publish(0, "t", object(0, 0)))
	// Of two announcements by the same end one is rejected, and one left.
	settle(t, w, announce(0, "t"))
	checkAsks(t, w, 0, ask{word.Announce, 0, 2})
	do(t, w, publish(0, "t", object(0, 1)))
}

func TestPublishErrors(t *testing.T) {
	w := newWorld(t, one())
	settle(t, w, announce(0, "t"), announce(0, "u"))
	checkDo(t, w, publish(1, "t", object(0, 0)), api.ErrNone)
	checkDo(t, w, publish(0, "v", object(0, 0)), api.ErrNone)
	checkDo(t, w, publish(0, "", object(0, 0)), api.ErrNone)
	// It is not announced by one that asks for it.
	settle(t, w, subscribe(1, "t", 0))
	checkDo(t, w, publish(1, "t", object(0, 0)), api.ErrNone)
	do(t, w, publish(0, "t", object(2, 2)))
	checkDo(t, w, publish(0, "t", object(2, 2)), api.ErrExists)
	checkDo(t, w, publish(0, "t", gram(2, 2)), api.ErrExists)
	do(t, w, publish(0, "u", gram(2, 2)), publish(0, "t", object(2, 1)), publish(0, "t", object(2, 3)), publish(0, "t", object(1, 2)))
	checkDo(t, w, publish(0, "u", object(2, 2)), api.ErrExists)
	// What it has published it has, also if it announces the track again.
	settle(t, w, withdraw(0, "t"))
	checkDo(t, w, publish(0, "t", object(2, 2)), api.ErrNone)
	settle(t, w, announce(0, "t"))
	checkDo(t, w, publish(0, "t", object(2, 2)), api.ErrExists)
	settle(t, w, publish(0, "t", object(2, 9)), fetch(2, "t", at(2, 1), at(2, 9)))
	checkGot(t, w, 2, answer(0, "t", object(2, 1), object(2, 2), object(2, 3), object(2, 9))...)
}

func TestLongestObjects(t *testing.T) {
	w := newWorld(t, one())
	settle(t, w, announce(0, "t"), subscribe(1, "t", 0))
	longest := api.Object{Place: at(api.MaxNum, api.MaxNum), Data: make([]byte, 2048)}
	short := api.Object{Place: at(api.MaxNum-1, 0), Gram: true, Data: make([]byte, 900)}
	settle(t, w, publish(0, "t", longest), publish(0, "t", short))
	checkGot(t, w, 1, got(0, "t", longest), got(0, "t", short))
	// Without any bytes, too.
	w = newWorld(t, one())
	settle(t, w, announce(0, "t"), subscribe(1, "t", 0))
	empty, none := api.Object{Place: at(3, 3)}, api.Object{Place: at(3, 4), Gram: true}
	settle(t, w, publish(0, "t", empty), publish(0, "t", none))
	checkGot(t, w, 1, got(0, "t", empty), got(0, "t", none))
}

// Wrong arguments are errors of steps of all kinds, and have no effect.
func TestWrongSteps(t *testing.T) {
	w := newWorld(t, one())
	settle(t, w, announce(0, "t"), subscribe(1, "t", 0))
	do(t, w, publish(0, "t", object(0, 0)))
	flying, now := w.Flying(), w.Now()
	for kind := range byte(12) {
		for i, change := range []func(*world.Step){
			func(s *world.Step) { s.Who = 3 },
			func(s *world.Step) { s.Who = -1 },
			func(s *world.Step) { s.Who = math.MaxInt },
			func(s *world.Step) { s.N = -1 },
			func(s *world.Step) { s.N = math.MinInt },
			func(s *world.Step) { s.Object.Data = make([]byte, 2049) },
			func(s *world.Step) { s.Object = api.Object{Gram: true, Data: make([]byte, 901)} },
		} {
			s := world.Step{Kind: kind, Track: []byte("t"), Object: object(0, 1), Msg: word.Msg{Order: 1}}
			change(&s)
			if e := w.Do(s); e != api.ErrArg {
				t.Errorf("%d: Do of kind %d: error %d; want ErrArg", i, kind, e)
			}
		}
	}
	for _, kind := range []byte{12, 13, 255} {
		checkDo(t, w, world.Step{Kind: kind}, api.ErrArg)
	}
	// There are no encodings of such places.
	checkDo(t, w, publish(0, "t", object(api.MaxNum+1, 0)), api.ErrArg)
	checkDo(t, w, publish(0, "t", object(0, math.MaxUint64)), api.ErrArg)
	if w.Flying() != flying || w.Now() != now {
		t.Fatal("a wrong step had an effect")
	}
	// Wrong arguments go before other errors.
	checkDo(t, w, world.Step{Kind: world.Publish, Track: []byte("none"), N: -1}, api.ErrArg)
	calm(t, w)
	checkGot(t, w, 1, got(0, "t", object(0, 0)))
	checkDo(t, w, world.Step{Kind: world.Land, N: -1}, api.ErrArg)
}

// The errors of Say are those of the steps that say something.
func TestErrorsOfSay(t *testing.T) {
	w, e := world.New(one())
	checkErrno(t, "New", e, api.OK)
	// The session is not Up yet.
	checkDo(t, w, announce(0, "t"), api.ErrState)
	checkDo(t, w, subscribe(0, "t", 0), api.ErrState)
	checkDo(t, w, fetch(0, "t", at(0, 0), at(0, 0)), api.ErrState)
	checkDo(t, w, withdraw(0, "t"), api.ErrNone)
	checkDo(t, w, unsubscribe(0, 0), api.ErrNone)
	calm(t, w)
	long := string(make([]byte, 33))
	for _, name := range []string{"", long} {
		checkDo(t, w, announce(0, name), api.ErrForm)
		checkDo(t, w, withdraw(0, name), api.ErrForm)
		checkDo(t, w, subscribe(0, name, 0), api.ErrForm)
		checkDo(t, w, fetch(0, name, at(0, 0), at(0, 0)), api.ErrForm)
	}
	settle(t, w, announce(0, long[:32]), subscribe(1, long[:32], 0))
	checkDo(t, w, world.Step{Kind: world.Subscribe, Track: []byte("t")}, api.ErrForm)
	checkDo(t, w, world.Step{Kind: world.Subscribe, Track: []byte("t"), Msg: word.Msg{Order: 1, N: 1}}, api.ErrForm)
	checkDo(t, w, world.Step{Kind: world.Fetch, Track: []byte("t"), Msg: word.Msg{Order: 1}}, api.ErrForm)
	checkDo(t, w, fetch(0, "t", at(0, 1), at(0, 0)), api.ErrForm)
	checkDo(t, w, withdraw(0, "t"), api.ErrNone)
	do(t, w, announce(0, "t"))
	// It is not granted yet.
	checkDo(t, w, withdraw(0, "t"), api.ErrNone)
	calm(t, w)
	settle(t, w, withdraw(0, "t"))
	checkDo(t, w, withdraw(0, "t"), api.ErrNone)
	// There is no such request: an Announce, one of the hub, none, one that is over.
	checkDo(t, w, unsubscribe(0, 0), api.ErrNone)
	checkDo(t, w, unsubscribe(0, 1), api.ErrNone)
	checkDo(t, w, unsubscribe(0, 8), api.ErrNone)
	checkDo(t, w, unsubscribe(0, api.MaxNum+1), api.ErrForm)
	settle(t, w, unsubscribe(1, 0))
	checkDo(t, w, unsubscribe(1, 0), api.ErrNone)
}

// The fields of Msg that a step gives a value don't matter.
func TestMsgOfStep(t *testing.T) {
	w := newWorld(t, one())
	settle(t, w, announce(0, "t"))
	m := word.Msg{Kind: word.Fetch, ID: 77, Alias: 5, Name: []byte("other"), Order: 2, Priority: 3, Start: at(1, 0)}
	settle(t, w, world.Step{Kind: world.Subscribe, Who: 1, Track: []byte("t"), Msg: m})
	m = word.Msg{Kind: 0x99, ID: 78, Name: []byte("other"), Priority: 4, Start: at(1, 0), End: at(1, 9)}
	do(t, w, world.Step{Kind: world.Fetch, Who: 1, Track: []byte("t"), Msg: m})
	l := w.Asks(1)
	if len(l) != 2 {
		t.Fatalf("%d requests", len(l))
	}
	if m := l[0].Msg; m.Kind != word.Subscribe || m.ID != 0 || string(m.Name) != "t" || m.Order != 2 || m.Priority != 3 || m.Start != at(1, 0) {
		t.Fatalf("the Subscribe is %+v", m)
	}
	if m := l[1].Msg; m.Kind != word.Fetch || m.ID != 2 || string(m.Name) != "t" || m.Priority != 4 || m.Start != at(1, 0) || m.End != at(1, 9) {
		t.Fatalf("the Fetch is %+v", m)
	}
}

// Each Subscribe of an end has an Alias of its own, also if the earlier ones are over.
func TestAliases(t *testing.T) {
	w := newWorld(t, one())
	settle(t, w, announce(0, "t"))
	used := map[uint64]int{}
	for i := range uint64(30) {
		settle(t, w, subscribe(1, "t", 0))
		for _, a := range w.Asks(1) {
			used[a.Msg.Alias]++
		}
		settle(t, w, unsubscribe(1, 2*i))
	}
	if len(used) != 30 {
		t.Fatalf("%d aliases were used for 30 Subscribes", len(used))
	}
}

func TestUnsubscribe(t *testing.T) {
	w := newWorld(t, row(2))
	settle(t, w, announce(0, "t"), subscribe(2, "t", 0), subscribe(2, "t", 0))
	settle(t, w, publish(0, "t", object(0, 0)), unsubscribe(2, 0), publish(0, "t", object(0, 1)))
	checkGot(t, w, 2, got(0, "t", object(0, 0)), got(2, "t", object(0, 0)), got(2, "t", object(0, 1)))
	// What is on its way then is not received.
	do(t, w, publish(0, "t", object(0, 2)), unsubscribe(2, 2))
	calm(t, w)
	checkAsks(t, w, 2)
	if n := len(w.Got(2)); n != 3 {
		t.Fatalf("%d objects were received", n)
	}
	do(t, w, fetch(2, "t", at(0, 0), at(9, 9)), unsubscribe(2, 4))
	checkAsks(t, w, 2)
	calm(t, w)
	if n := len(w.Got(2)); n != 3 {
		t.Fatalf("%d objects were received", n)
	}
}

// Subscribes get what is published after they are granted, as far as they request it.
func TestSubscribe(t *testing.T) {
	w := newWorld(t, row(3))
	settle(t, w, announce(0, "t"), publish(0, "t", object(5, 0)))
	end := subscribe(1, "t", 2)
	end.Msg.End.Group = 3
	exact := subscribe(2, "t", 2)
	exact.Msg.Start.Object = 1
	settle(t, w, end, exact, subscribe(3, "none", 0), subscribe(0, "t", 0))
	checkAsks(t, w, 3)
	// A source can't subscribe to its own track.
	checkAsks(t, w, 0, ask{word.Announce, 0, 2})
	for _, o := range []api.Object{object(1, 9), object(2, 0), gram(2, 1), object(3, 2), gram(4, 0)} {
		settle(t, w, publish(0, "t", o))
	}
	checkGot(t, w, 1, got(0, "t", object(2, 0)), got(0, "t", gram(2, 1)), got(0, "t", object(3, 2)))
	checkGot(t, w, 2, got(0, "t", gram(2, 1)), got(0, "t", object(3, 2)), got(0, "t", gram(4, 0)))
	checkGot(t, w, 3)
}

// A Fetch gets the objects that there are, from the source or from the shelf of a hub, and then its end.
func TestFetch(t *testing.T) {
	w := newWorld(t, row(3))
	settle(t, w, announce(0, "t"))
	for _, o := range []api.Object{object(1, 1), object(0, 3), object(0, 1), gram(0, 2), object(2, 0)} {
		settle(t, w, publish(0, "t", o))
	}
	settle(t, w, fetch(2, "t", at(0, 2), at(1, 9)), fetch(2, "t", at(3, 0), at(4, 0)), fetch(2, "u", at(0, 0), at(0, 0)), fetch(0, "t", at(0, 0), at(0, 1)))
	first := answer(0, "t", object(0, 2), object(0, 3), object(1, 1))
	checkGot(t, w, 2, append(first, answer(2, "t")...)...)
	checkGot(t, w, 0)
	checkAsks(t, w, 2)
	// Now from the shelf, where Grams are as well.
	settle(t, w, subscribe(3, "t", 0), publish(0, "t", object(7, 0)), publish(0, "t", gram(7, 1)))
	settle(t, w, fetch(2, "t", at(7, 0), at(7, 1)))
	checkGot(t, w, 2, append(append(first, answer(2, "t")...), answer(6, "t", object(7, 0), object(7, 1))...)...)
}

func TestBreak(t *testing.T) {
	w := newWorld(t, row(2))
	settle(t, w, announce(0, "t"), announce(2, "u"), subscribe(1, "t", 0), subscribe(2, "t", 0), subscribe(0, "u", 0))
	// Connection 4 is the link, connection 7 that of end 2.
	do(t, w, network(world.Break, 7))
	calm(t, w)
	states := func(want ...int) {
		t.Helper()
		for i, l := range w.Lines() {
			code, _, own := l.Code()
			if l.State() != want[i] || code != 0 || own != (want[i] == line.Closed) {
				t.Fatalf("line %d is in state %d with code %x, %v; want %d", i, l.State(), code, own, want[i])
			}
		}
	}
	states(line.Up, line.Up, line.Up, line.Up, line.Closed, line.Gone, line.Up, line.Up, line.Up, line.Up)
	checkFeed(t, w, 0, "t", 2, 1)
	checkFeed(t, w, 1, "t", 0, 0)
	checkAsks(t, w, 0, ask{word.Announce, 0, 2})
	if len(w.Hub(1).Tracks()) != 1 || len(w.Hub(0).Tracks()) != 1 || len(w.Hub(1).Peers()) != 2 {
		t.Fatal("the end is still known")
	}
	settle(t, w, subscribe(3, "t", 0), publish(0, "t", object(0, 0)))
	checkFeed(t, w, 0, "t", 2, 2)
	do(t, w, network(world.Break, 4))
	// A hub that is the client knows it at once.
	if len(w.Hub(1).Tracks()) != 0 || len(w.Hub(0).Peers()) != 3 {
		t.Fatalf("tracks %q, peers %d", w.Hub(1).Tracks(), w.Hub(0).Peers())
	}
	calm(t, w)
	states(line.Up, line.Up, line.Up, line.Up, line.Closed, line.Gone, line.Up, line.Up, line.Closed, line.Gone)
	checkAsks(t, w, 3)
	checkFeed(t, w, 0, "t", 2, 1)
	settle(t, w, publish(0, "t", object(0, 1)), network(world.Break, 4))
	checkGot(t, w, 1, got(0, "t", object(0, 0)), got(0, "t", object(0, 1)))
	checkGot(t, w, 2)
	checkGot(t, w, 3, got(0, "t", object(0, 0)))
	do(t, w, network(world.Break, 0))
	calm(t, w)
	checkAsks(t, w, 1)
	if l := w.Hub(0).Tracks(); len(l) != 0 {
		t.Fatalf("the tracks are %q", l)
	}
}

// A connection may be broken before the other side has heard of it.
func TestEarlyBreak(t *testing.T) {
	for k := range 4 {
		w, e := world.New(one())
		checkErrno(t, "New", e, api.OK)
		for range k {
			do(t, w, network(world.Land, 0))
		}
		do(t, w, network(world.Break, 0))
		calm(t, w)
		if s := w.Lines()[0].State(); s != line.Closed {
			t.Fatalf("the client is in state %d", s)
		}
		if s := w.Lines()[1].State(); s != line.Gone {
			t.Fatalf("the server is in state %d", s)
		}
	}
	w, e := world.New(one())
	checkErrno(t, "New", e, api.OK)
	do(t, w, network(world.Break, 0))
	do(t, w, network(world.Lose, 0), network(world.Lose, 2))
	calm(t, w)
	// The server waits for a first packet for ever, and so does nothing.
	if s := w.Lines()[1].State(); s != line.Greeting {
		t.Fatalf("the server is in state %d", s)
	}
}
