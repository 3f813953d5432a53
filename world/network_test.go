package world_test

import (
	"math"
	"testing"

	"colonnade/api"
	"colonnade/line"
	"colonnade/world"
)

// lone is a world with one connection, with its first datagram in flight.
func lone(t *testing.T) *world.World {
	t.Helper()
	w, e := world.New(world.Config{Hubs: 1, Homes: []int{0}, Room: 100, Lets: 5, Late: 1})
	checkErrno(t, "New", e, api.OK)
	checkFlying(t, w, 1)
	return w
}

func checkStates(t *testing.T, w *world.World, want ...int) {
	t.Helper()
	for i, l := range w.Lines() {
		if l.State() != want[i] {
			t.Fatalf("line %d is in state %d; want %d", i, l.State(), want[i])
		}
	}
}

func TestLand(t *testing.T) {
	w := lone(t)
	// The server's answer is in flight at once, in time the client's, and then the messages.
	do(t, w, network(world.Land, 0))
	checkStates(t, w, line.Greeting, line.Greeting)
	checkFlying(t, w, 1)
	do(t, w, network(world.Land, 6))
	checkStates(t, w, line.Up, line.Greeting)
	if w.Flying() == 0 || w.Now() != 0 {
		t.Fatalf("%d in flight at %d", w.Flying(), w.Now())
	}
	do(t, w, network(world.Land, 0))
	checkStates(t, w, line.Up, line.Up)
}

// Datagrams are numbered in the order in which they were sent, modulo their number.
func TestNumbers(t *testing.T) {
	w, e := world.New(world.Config{Hubs: 1, Homes: []int{0, 0, 0}, Room: 100, Lets: 5, Late: 1})
	checkErrno(t, "New", e, api.OK)
	opened := func(want ...int) {
		t.Helper()
		for i, n := range want {
			if got := w.Lines()[i].Opened(); got != n {
				t.Fatalf("line %d has opened %d packets; want %d", i, got, n)
			}
		}
	}
	do(t, w, network(world.Land, 3*1000+1))
	opened(0, 0, 0, 1, 0, 0)
	// The answer for 1 is the last one now: 0, 2, 1.
	do(t, w, network(world.Land, 4))
	opened(0, 0, 0, 1, 0, 1)
	do(t, w, network(world.Double, 0))
	opened(0, 1, 0, 1, 0, 1)
	checkFlying(t, w, 4)
	do(t, w, network(world.Double, 0))
	opened(0, 2, 0, 1, 0, 1)
	do(t, w, network(world.Lose, 2))
	do(t, w, network(world.Land, 1))
	if w.Lines()[2].State() != line.Up || w.Lines()[4].State() != line.Greeting {
		t.Fatal("another one was lost, or arrived")
	}
}

func TestNoneInFlight(t *testing.T) {
	w := lone(t)
	calm(t, w)
	for _, kind := range []byte{world.Land, world.Lose, world.Double, world.Turn} {
		for _, n := range []int{0, 1, math.MaxInt} {
			checkDo(t, w, world.Step{Kind: kind, N: n, By: 1}, api.ErrNone)
		}
	}
	if w.Flying() != 0 || w.Now() != 0 || !w.Rest() {
		t.Fatal("a step with none in flight had an effect")
	}
}

func TestLose(t *testing.T) {
	w := lone(t)
	do(t, w, network(world.Lose, 0))
	checkFlying(t, w, 0)
	checkStates(t, w, line.Greeting, line.Greeting)
	if w.Rest() {
		t.Fatal("Rest, though the client has to send again")
	}
	at, ok := w.Lines()[0].Due()
	if !ok || at == 0 {
		t.Fatalf("Due = %d, %v", at, ok)
	}
	// It is sent again when it is due.
	do(t, w, network(world.Tick, int(at)-1))
	checkFlying(t, w, 0)
	do(t, w, network(world.Tick, 1))
	checkFlying(t, w, 1)
	calm(t, w)
	checkStates(t, w, line.Up, line.Up)
}

func TestDouble(t *testing.T) {
	w := lone(t)
	do(t, w, network(world.Double, 0))
	checkFlying(t, w, 2)
	if n := w.Lines()[1].Opened(); n != 1 {
		t.Fatalf("%d packets were opened", n)
	}
	calm(t, w)
	checkStates(t, w, line.Up, line.Up)
	settle(t, w, announce(0, "t"))
	// What arrives again has no effect.
	w = newWorld(t, one())
	settle(t, w, announce(0, "t"), subscribe(1, "t", 0))
	do(t, w, publish(0, "t", gram(0, 0)), publish(0, "t", object(0, 1)))
	for range 30 {
		do(t, w, network(world.Double, 0))
		if w.Flying() > 2 {
			do(t, w, network(world.Land, 2))
		}
	}
	calm(t, w)
	checkGot(t, w, 1, got(0, "t", gram(0, 0)), got(0, "t", object(0, 1)))
}

// A changed datagram has no effect, whatever it is changed by; but by 0 it is not changed.
func TestTurn(t *testing.T) {
	w := lone(t)
	for by := 1; by < 256; by++ {
		do(t, w, world.Step{Kind: world.Turn, By: byte(by)})
		checkFlying(t, w, 0)
		w.Calm(1)
		checkFlying(t, w, 1)
	}
	if n := w.Lines()[1].Opened(); n != 0 || w.Forged() != 0 {
		t.Fatalf("%d packets were opened, %d forged", n, w.Forged())
	}
	do(t, w, world.Step{Kind: world.Turn})
	if n := w.Lines()[1].Opened(); n != 1 || w.Forged() != 0 {
		t.Fatalf("%d packets were opened, %d forged", n, w.Forged())
	}
	calm(t, w)
	checkStates(t, w, line.Up, line.Up)
}

// Datagrams of all kinds are changed, also such with more than one packet.
func TestTurnAll(t *testing.T) {
	w, e := world.New(row(2))
	checkErrno(t, "New", e, api.OK)
	turned := 0
	turn := func() {
		t.Helper()
		for range w.Flying() {
			before := 0
			for _, l := range w.Lines() {
				before += l.Opened()
			}
			do(t, w, world.Step{Kind: world.Double}, world.Step{Kind: world.Turn, By: byte(1 + turned%255)})
			after := 0
			for _, l := range w.Lines() {
				after += l.Opened()
			}
			// Only the first one was opened.
			if after <= before || w.Forged() != 0 {
				t.Fatalf("%d packets were opened, %d forged", after-before, w.Forged())
			}
			turned++
		}
	}
	for range 6 {
		turn()
	}
	calm(t, w)
	settle(t, w, announce(0, "t"), subscribe(2, "t", 0))
	for i := range uint64(20) {
		do(t, w, publish(0, "t", object(0, i)))
		turn()
	}
	calm(t, w)
	if n := len(w.Got(2)); n != 20 || turned < 40 {
		t.Fatalf("%d objects were received, %d datagrams turned", n, turned)
	}
}

func TestTick(t *testing.T) {
	w := newWorld(t, one())
	now := w.Now()
	for _, x := range []struct {
		n    int
		want uint64
	}{{0, 1}, {1, 1}, {2, 2}, {999, 999}, {1000, 1000}, {1001, 1000}, {math.MaxInt, 1000}} {
		do(t, w, network(world.Tick, x.n))
		if now += x.want; w.Now() != now {
			t.Fatalf("after Tick %d, Now = %d; want %d", x.n, w.Now(), now)
		}
	}
	if !w.Rest() {
		t.Fatal("something happens at rest")
	}
}

// In each of many ticks that pass at once happens what is due.
func TestTicksOneByOne(t *testing.T) {
	a, b := lone(t), lone(t)
	do(t, a, network(world.Lose, 0), network(world.Tick, 700))
	do(t, b, network(world.Lose, 0))
	for range 700 {
		do(t, b, network(world.Tick, 1))
	}
	if a.Flying() != b.Flying() || a.Now() != b.Now() || a.Flying() < 3 {
		t.Fatalf("%d in flight at %d; want %d at %d", a.Flying(), a.Now(), b.Flying(), b.Now())
	}
}

func TestCalm(t *testing.T) {
	w := lone(t)
	for _, most := range []int{0, -1, math.MinInt} {
		if n := w.Calm(most); n != 0 {
			t.Fatalf("Calm(%d) = %d", most, n)
		}
	}
	checkFlying(t, w, 1)
	checkStates(t, w, line.Greeting, line.Greeting)
	// Round by round is the same as all at once.
	rounds := 0
	for w.Calm(1) == 1 {
		rounds++
	}
	other := lone(t)
	if n := other.Calm(1000); n != rounds || rounds < 3 {
		t.Fatalf("%d rounds; %d one by one", n, rounds)
	}
	if n := other.Calm(math.MaxInt); n != 0 || !other.Rest() {
		t.Fatalf("after that %d rounds, Rest = %v", n, other.Rest())
	}
	// In a round all arrive that are in flight, but no others.
	w, e := world.New(one())
	checkErrno(t, "New", e, api.OK)
	if n := w.Calm(1); n != 1 {
		t.Fatalf("Calm(1) = %d", n)
	}
	for i, l := range w.Lines() {
		if l.Opened() != i%2 {
			t.Fatalf("line %d has opened %d packets", i, l.Opened())
		}
	}
	checkFlying(t, w, 3)
}

// If nothing is in flight, time advances to what is due next.
func TestCalmAdvances(t *testing.T) {
	w := lone(t)
	do(t, w, network(world.Tick, 3), network(world.Lose, 0))
	at, _ := w.Lines()[0].Due()
	if n := w.Calm(1); n != 1 || w.Now() != at || w.Flying() != 1 {
		t.Fatalf("after %d rounds it is %d, with %d in flight; want %d", n, w.Now(), w.Flying(), at)
	}
	for range 5 {
		loseAll(t, w)
		w.Calm(1)
	}
	now := w.Now()
	calm(t, w)
	if w.Now() != now {
		t.Fatalf("Now = %d after all arrived; want %d", w.Now(), now)
	}
	checkStates(t, w, line.Up, line.Up)
}

// Of several times that are due, the first one comes.
func TestCalmAdvancesToFirst(t *testing.T) {
	w, e := world.New(one())
	checkErrno(t, "New", e, api.OK)
	do(t, w, network(world.Tick, 10), network(world.Land, 2))
	loseAll(t, w)
	at, _ := w.Lines()[0].Due()
	if later, ok := w.Lines()[5].Due(); !ok || later <= at {
		t.Fatalf("the last line has something to do at %d, %v", later, ok)
	}
	if n := w.Calm(1); n != 1 || w.Now() != at {
		t.Fatalf("it is %d; want %d", w.Now(), at)
	}
}

// All that can be lost of a handshake may be.
func TestRest(t *testing.T) {
	w := lone(t)
	do(t, w, network(world.Land, 0))
	for range 20 {
		if w.Rest() {
			t.Fatal("Rest within a handshake")
		}
		loseAll(t, w)
		if w.Rest() {
			t.Fatal("Rest, though something is due")
		}
		w.Calm(1)
	}
	calm(t, w)
	settle(t, w, announce(0, "t"))
	do(t, w, network(world.Break, 0))
	if w.Rest() {
		t.Fatal("Rest with a datagram in flight")
	}
	loseAll(t, w)
	// The server does not know it, and has nothing to say.
	if !w.Rest() {
		t.Fatal("no Rest")
	}
	checkStates(t, w, line.Closed, line.Up)
	if n := w.Calm(9); n != 0 {
		t.Fatalf("%d rounds at rest", n)
	}
}
