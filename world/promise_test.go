package world_test

import (
	"math/rand/v2"
	"slices"
	"testing"

	"colonnade/api"
	"colonnade/word"
	"colonnade/world"
)

// An object passes through a row of hubs to each end that asked for it, once, with its bytes and its priority.
func TestRow(t *testing.T) {
	for hubs := 1; hubs <= 4; hubs++ {
		w := newWorld(t, row(hubs))
		settle(t, w, announce(0, "t"), subscribe(1, "t", 0), subscribe(2, "t", 0), subscribe(3, "t", 0), subscribe(3, "t", 1))
		var first, both []world.Got
		for group := range uint64(3) {
			for number := range uint64(3) {
				o := object(group, number)
				o.Gram = number == 1
				settle(t, w, publish(0, "t", o))
				first = append(first, got(0, "t", o))
				both = append(both, got(0, "t", o))
				if group > 0 {
					both = append(both, got(2, "t", o))
				}
			}
		}
		checkGot(t, w, 0)
		checkGot(t, w, 1, first...)
		checkGot(t, w, 2, first...)
		checkGot(t, w, 3, both...)
	}
}

// Tracks are told apart by their whole names, and by who announced them.
func TestTracks(t *testing.T) {
	w := newWorld(t, row(2))
	names := []string{"t", "t\x00", "tt", string(make([]byte, 32)), string(make([]byte, 31))}
	for i, name := range names {
		settle(t, w, announce(i%2, name), subscribe(3, name, 0))
	}
	var want []world.Got
	for i, name := range names {
		o := object(0, uint64(i))
		settle(t, w, publish(i%2, name, o))
		want = append(want, got(uint64(2*i), name, o))
	}
	checkGot(t, w, 3, want...)
}

// lossy loses what is in flight at random, and lets the rest arrive, for some rounds.
func lossy(t *testing.T, w *world.World, random *rand.Rand, rounds int) {
	t.Helper()
	for range rounds {
		for range w.Flying() {
			kind := world.Land
			if random.IntN(3) == 0 {
				kind = world.Lose
			}
			do(t, w, network(kind, 0))
		}
		do(t, w, network(world.Tick, random.IntN(40)))
	}
}

// What is published arrives in the end, even if much is lost before.
func TestArrivalAfterLoss(t *testing.T) {
	random := rand.New(rand.NewPCG(21, 4))
	for range 20 {
		w := newWorld(t, row(1+random.IntN(4)))
		settle(t, w, announce(0, "t"), subscribe(1, "t", 0), subscribe(2, "t", 0), subscribe(3, "t", 3))
		var places []api.Place
		for range 40 {
			o := api.Object{Place: at(random.Uint64N(9), random.Uint64N(9)), Priority: byte(random.IntN(3)), Data: make([]byte, random.IntN(2000))}
			if w.Do(publish(0, "t", o)) == api.OK {
				places = append(places, o.Place)
			}
			lossy(t, w, random, random.IntN(3))
		}
		calm(t, w)
		for end, from := range map[int]uint64{1: 0, 2: 0, 3: 3} {
			var have []api.Place
			for _, g := range w.Got(end) {
				have = append(have, g.Object.Place)
			}
			for _, place := range places {
				if slices.Contains(have, place) != (place.Group >= from) {
					t.Fatalf("%d has received %v; published was %v", end, have, places)
				}
			}
		}
	}
}

// arrives checks that objects that are published at once are received by all of some requests of an end before the end of a Calm of 4000.
func arrives(t *testing.T, c world.Config, requests int, order byte, l []api.Object) {
	t.Helper()
	c.Late = far
	w := newWorld(t, c)
	end := len(c.Homes) - 1
	settle(t, w, announce(0, "t"))
	for range requests {
		s := subscribe(end, "t", 0)
		s.Msg.Order = order
		settle(t, w, s)
	}
	for _, o := range l {
		do(t, w, publish(0, "t", o))
	}
	calm(t, w)
	if n := len(w.Got(end)); n != requests*len(l) {
		t.Fatalf("%d objects were received; want %d", n, requests*len(l))
	}
}

// objects returns so many objects of so many bytes, where place tells their places.
func objects(count uint64, size int, place func(uint64) api.Place) []api.Object {
	var l []api.Object
	for i := range count {
		l = append(l, api.Object{Place: place(i), Data: make([]byte, size)})
	}
	return l
}

func TestArrivalOfMany(t *testing.T) {
	increasing := func(i uint64) api.Place { return at(i, 0) }
	decreasing := func(i uint64) api.Place { return at(10000-i, 0) }
	within := func(i uint64) api.Place { return at(0, i) }
	back := func(i uint64) api.Place { return at(0, 10000-i) }
	arrives(t, one(), 1, 1, objects(4096, 2048, within))
	arrives(t, one(), 1, 1, objects(4096, 2048, decreasing))
	arrives(t, row(4), 1, 2, objects(1000, 500, decreasing))
	arrives(t, row(4), 1, 2, objects(1000, 500, increasing))
	arrives(t, row(2), 1, 1, objects(4096, 0, increasing))
	arrives(t, row(2), 1, 1, objects(300, 2048, back))
	// There are more requests than streams.
	c := row(2)
	c.Lets = 64
	arrives(t, c, 60, 1, objects(50, 2048, within))
	arrives(t, c, 60, 1, objects(50, 20, increasing))
	arrives(t, c, 60, 2, objects(50, 20, decreasing))
}

// Groups that are stale are given up, others are not.
func TestStale(t *testing.T) {
	c := row(2)
	c.Late = 2
	w := newWorld(t, c)
	settle(t, w, announce(0, "t"), subscribe(2, "t", 0))
	for group := range uint64(6) {
		do(t, w, publish(0, "t", object(group, 0)))
		loseAll(t, w)
	}
	calm(t, w)
	checkGot(t, w, 2, got(0, "t", object(3, 0)), got(0, "t", object(4, 0)), got(0, "t", object(5, 0)))
	// Too late, just in time.
	settle(t, w, publish(0, "t", object(2, 9)), publish(0, "t", object(3, 9)))
	if l := w.Got(2); len(l) != 4 || !same(l[3], got(0, "t", object(3, 9))) {
		t.Fatalf("%+v", l)
	}
	// They are there nevertheless.
	settle(t, w, fetch(2, "t", at(0, 0), at(2, 9)))
	if l := w.Got(2); !slices.EqualFunc(l[4:], answer(2, "t", object(0, 0), object(1, 0), object(2, 0), object(2, 9)), same) {
		t.Fatalf("%+v", l[4:])
	}
}

// Nothing of what a world holds is more than it may be.
func TestBounds(t *testing.T) {
	random := rand.New(rand.NewPCG(21, 5))
	c := row(2)
	c.Room = 5000
	w := newWorld(t, c)
	settle(t, w, announce(0, "t"), subscribe(1, "t", 0), subscribe(2, "t", 0), subscribe(3, "t", 0))
	check := func() {
		t.Helper()
		for i, l := range w.Lines() {
			if flight, window, unread := l.Told(); flight > 2*window+3*api.MaxPacket || unread > api.Credit {
				t.Fatalf("line %d: %d in flight with a window of %d, %d unread", i, flight, window, unread)
			}
		}
		for n := range 2 {
			if u := w.Hub(n).Used(); u > c.Room {
				t.Fatalf("hub %d uses %d", n, u)
			}
		}
	}
	full := 0
	for i := range uint64(600) {
		do(t, w, publish(0, "t", api.Object{Place: at(i/50, i), Data: make([]byte, 1500)}))
		for range random.IntN(4) {
			kind := []byte{world.Land, world.Land, world.Land, world.Lose}[random.IntN(4)]
			if e := w.Do(network(kind, random.IntN(5))); e != api.OK && e != api.ErrNone {
				t.Fatal(e)
			}
			check()
		}
		if w.Hub(1).Used() > c.Room*3/4 {
			full++
		}
		if i%20 == 0 {
			do(t, w, network(world.Tick, 50))
			check()
		}
	}
	for w.Calm(1) == 1 {
		check()
	}
	if full < 100 {
		t.Fatalf("the shelf was full %d times", full)
	}
}

// What waits for credit is at most 4096 objects; the first ones are those that wait.
func TestDropped(t *testing.T) {
	w := newWorld(t, one())
	settle(t, w, announce(0, "t"), subscribe(1, "t", 0))
	for i := range uint64(5000) {
		do(t, w, publish(0, "t", api.Object{Place: at(0, i), Data: make([]byte, 2000)}))
	}
	calm(t, w)
	// Eight of them have room in the stream.
	l := w.Got(1)
	if len(l) != 4096+8 {
		t.Fatalf("%d objects were received", len(l))
	}
	for i, g := range l {
		if g.Object.Object != uint64(i) {
			t.Fatalf("object %d is %v", i, g.Object.Place)
		}
	}
	settle(t, w, publish(0, "t", object(0, 5000)))
	if n := len(w.Got(1)); n != 4096+9 {
		t.Fatalf("%d objects were received", n)
	}
}

// feeds returns how many Subscribes for a track a hub has made that are not over.
func feeds(w *world.World, n int, track string) int {
	count := 0
	h := w.Hub(n)
	for _, p := range h.Peers() {
		for _, a := range h.Session(p).Asks(true) {
			if a.Msg.Kind == word.Subscribe && string(a.Msg.Name) == track {
				count++
			}
		}
	}
	return count
}

// A hub has one feed for a track, and has it if and only if there are users.
func TestFeeds(t *testing.T) {
	w := newWorld(t, row(3))
	settle(t, w, announce(0, "t"))
	check := func(want ...int) {
		t.Helper()
		for n, users := range want {
			feed, count := 2, 1
			if users == 0 {
				feed, count = 0, 0
			}
			checkFeed(t, w, n, "t", feed, users)
			if k := feeds(w, n, "t"); k != count {
				t.Fatalf("hub %d has %d feeds", n, k)
			}
		}
	}
	check(0, 0, 0)
	settle(t, w, subscribe(2, "t", 0))
	check(1, 1, 1)
	settle(t, w, subscribe(3, "t", 0), subscribe(2, "t", 0))
	check(1, 1, 3)
	settle(t, w, subscribe(1, "t", 0))
	check(2, 1, 3)
	settle(t, w, unsubscribe(2, 0), unsubscribe(3, 0))
	check(2, 1, 1)
	settle(t, w, unsubscribe(2, 2))
	check(1, 0, 0)
	settle(t, w, subscribe(3, "t", 0), unsubscribe(1, 0))
	check(1, 1, 1)
	settle(t, w, withdraw(0, "t"))
	check(0, 0, 0)
	checkAsks(t, w, 3)
	settle(t, w, announce(1, "t"), subscribe(3, "t", 0), publish(1, "t", object(0, 0)))
	check(1, 1, 1)
	checkGot(t, w, 3, got(4, "t", object(0, 0)))
	settle(t, w, network(world.Break, 3))
	check(0, 0, 0)
}

// While the messages are on their way, too.
func TestFeedsOnTheWay(t *testing.T) {
	w := newWorld(t, row(2))
	settle(t, w, announce(0, "t"))
	do(t, w, subscribe(2, "t", 0), subscribe(3, "t", 0))
	seen := map[int]int{}
	for range 40 {
		if w.Flying() > 0 {
			do(t, w, network(world.Land, 0))
		}
		for n := range 2 {
			feed, users := w.Hub(n).Feed([]byte("t")), w.Hub(n).Users([]byte("t"))
			seen[feed]++
			if (feed == 0) != (users == 0) || feeds(w, n, "t") != min(users, 1) {
				t.Fatalf("hub %d has the feed %d, %d users and %d requests", n, feed, users, feeds(w, n, "t"))
			}
		}
	}
	calm(t, w)
	if seen[0] == 0 || seen[1] == 0 || seen[2] == 0 {
		t.Fatalf("only %v were seen", seen)
	}
	checkGranted(t, w, 2, 0)
	checkGranted(t, w, 3, 0)
}
