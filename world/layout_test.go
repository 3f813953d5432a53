package world_test

import (
	"math"
	"slices"
	"testing"

	"colonnade/api"
	"colonnade/line"
	"colonnade/world"
)

// full has a hub with as many peers as there may be.
func full() world.Config {
	return world.Config{Hubs: 4, Homes: []int{0, 0, 0, 0, 0, 0}, Links: [][2]int{{0, 1}, {2, 0}}, Room: 1048576, Lets: 64, Late: math.MaxUint64}
}

func TestNew(t *testing.T) {
	least := world.Config{Hubs: 1, Room: 1, Lets: 1, Late: 1}
	twice := world.Config{Hubs: 4, Links: [][2]int{{0, 1}, {0, 1}, {1, 0}, {3, 2}, {2, 3}, {2, 1}}, Room: 100, Lets: 9, Late: 9}
	for i, c := range []world.Config{least, one(), row(4), full(), twice} {
		w, e := world.New(c)
		checkErrno(t, "New", e, api.OK)
		// The first datagram of each client is in flight.
		count := len(c.Homes) + len(c.Links)
		checkFlying(t, w, count)
		if n := len(w.Lines()); n != 2*count || w.Now() != 0 || w.Forged() != 0 {
			t.Fatalf("%d: %d lines, Now = %d, Forged = %d", i, n, w.Now(), w.Forged())
		}
		if w.Rest() != (count == 0) {
			t.Fatalf("%d: Rest = %v", i, w.Rest())
		}
		calm(t, w)
		for k, l := range w.Lines() {
			if l.State() != line.Up {
				t.Fatalf("%d: line %d is in state %d", i, k, l.State())
			}
		}
		if w.Now() != 0 {
			t.Fatalf("%d: it took until %d", i, w.Now())
		}
		for n := range c.Hubs {
			peers := 0
			for _, home := range c.Homes {
				if home == n {
					peers++
				}
			}
			for _, l := range c.Links {
				if slices.Contains(l[:], n) {
					peers++
				}
			}
			if l := w.Hub(n).Peers(); len(l) != peers {
				t.Fatalf("%d: hub %d has the peers %d; want %d of them", i, n, l, peers)
			}
			for _, p := range w.Hub(n).Peers() {
				if !w.Hub(n).Session(p).Up() {
					t.Fatalf("%d: the session of hub %d with %d is not Up", i, n, p)
				}
			}
		}
	}
}

func TestNewWithWrongConfig(t *testing.T) {
	for i, change := range []func(*world.Config){
		func(c *world.Config) { c.Hubs = 0 },
		func(c *world.Config) { c.Hubs = -1 },
		func(c *world.Config) { c.Hubs = math.MinInt },
		func(c *world.Config) { c.Hubs = 5 },
		func(c *world.Config) { c.Hubs = math.MaxInt },
		func(c *world.Config) { c.Homes = []int{0, 0, 0, 1, 1, 1, 2} },
		func(c *world.Config) { c.Homes = []int{0, 4} },
		func(c *world.Config) { c.Homes = []int{-1} },
		func(c *world.Config) { c.Homes = []int{math.MaxInt} },
		func(c *world.Config) { c.Links = [][2]int{{0, 4}} },
		func(c *world.Config) { c.Links = [][2]int{{4, 0}} },
		func(c *world.Config) { c.Links = [][2]int{{-1, 0}} },
		func(c *world.Config) { c.Links = [][2]int{{0, -1}} },
		func(c *world.Config) { c.Links = [][2]int{{1, 1}} },
		func(c *world.Config) { c.Links = [][2]int{{1, 2}, {1, 2}, {1, 2}, {1, 3}, {1, 3}, {2, 3}, {2, 3}} },
		func(c *world.Config) { c.Links = [][2]int{{0, 1}, {2, 0}, {0, 3}} },
		func(c *world.Config) { c.Links = [][2]int{{0, 1}, {2, 0}, {2, 0}} },
		func(c *world.Config) { c.Room = 0 },
		func(c *world.Config) { c.Room = -1 },
		func(c *world.Config) { c.Room = 1048577 },
		func(c *world.Config) { c.Lets = 0 },
		func(c *world.Config) { c.Lets = 65 },
		func(c *world.Config) { c.Lets = math.MaxUint64 },
		func(c *world.Config) { c.Late = 0 },
	} {
		c := full()
		if _, e := world.New(c); e != api.OK {
			t.Fatalf("New: error %d", e)
		}
		change(&c)
		if w, e := world.New(c); e != api.ErrArg || w != nil {
			t.Errorf("%d: New(%+v) = %v, %d; want ErrArg", i, c, w != nil, e)
		}
	}
}

// End e is connected to Homes[e], as a client, and the first hub of a link is its client, too.
func TestConnections(t *testing.T) {
	c := world.Config{Hubs: 3, Homes: []int{2, 0}, Links: [][2]int{{1, 0}, {1, 2}}, Room: 100, Lets: 7, Late: 1}
	w := newWorld(t, c)
	settle(t, w, announce(0, "t"))
	for n, want := range []int{2, 2, 2} {
		if l := w.Hub(n).Tracks(); len(l) != 1 || len(w.Hub(n).Peers()) != want {
			t.Fatalf("hub %d has the tracks %q and %d peers", n, l, len(w.Hub(n).Peers()))
		}
	}
	// The first request of a client has the ID 0, that of a server 1.
	for n, own := range [][]uint64{{1}, {0}, {1}} {
		var ids []uint64
		for _, p := range w.Hub(n).Peers() {
			for _, a := range w.Hub(n).Session(p).Asks(true) {
				ids = append(ids, a.Msg.ID)
			}
		}
		if !slices.Equal(ids, own) {
			t.Fatalf("hub %d has made the requests %d; want %d", n, ids, own)
		}
	}
	checkAsks(t, w, 0, ask{6, 0, 2})
	checkAsks(t, w, 1)
}

// Each side permits the other one Lets requests in total, and one more for each that is over.
func TestLets(t *testing.T) {
	c := one()
	c.Lets = 2
	w := newWorld(t, c)
	settle(t, w, announce(0, "t"), subscribe(1, "t", 0))
	do(t, w, subscribe(1, "t", 0))
	checkDo(t, w, subscribe(1, "t", 0), api.ErrCredit)
	calm(t, w)
	checkDo(t, w, subscribe(1, "t", 0), api.ErrCredit)
	settle(t, w, unsubscribe(1, 2))
	settle(t, w, subscribe(1, "t", 0))
	checkDo(t, w, subscribe(1, "t", 0), api.ErrCredit)
	checkAsks(t, w, 1, ask{3, 0, 2}, ask{3, 4, 2})
}

// An end permits its hub Lets requests, too.
func TestLetsOfEnd(t *testing.T) {
	c := one()
	c.Homes = append(c.Homes, 0)
	c.Lets = 2
	w := newWorld(t, c)
	settle(t, w, announce(0, "t"), announce(1, "u"), announce(2, "v"))
	peers := w.Hub(0).Peers()
	if n := len(w.Hub(0).Session(peers[3]).Asks(true)); n != 2 {
		t.Fatalf("the hub has made %d requests", n)
	}
	settle(t, w, withdraw(0, "t"), announce(0, "x"))
	if n := len(w.Hub(0).Session(peers[3]).Asks(true)); n != 2 {
		t.Fatalf("the hub has made %d requests", n)
	}
}
