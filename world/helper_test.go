package world_test

import (
	"bytes"
	"slices"
	"testing"

	"colonnade/api"
	"colonnade/talk"
	"colonnade/word"
	"colonnade/world"
)

// far is a window in which no group of a test becomes stale.
const far = 1 << 40

// one is a hub with three ends.
func one() world.Config {
	return world.Config{Hubs: 1, Homes: []int{0, 0, 0}, Room: 4000, Lets: 20, Late: far}
}

// row is a row of hubs, with ends at the first one (0 and 1) and at the last one (2 and 3).
func row(hubs int) world.Config {
	c := world.Config{Hubs: hubs, Homes: []int{0, 0, hubs - 1, hubs - 1}, Room: 4000, Lets: 20, Late: far}
	for n := 1; n < hubs; n++ {
		c.Links = append(c.Links, [2]int{n, n - 1})
	}
	return c
}

func at(group, number uint64) api.Place {
	return api.Place{Group: group, Object: number}
}

// object returns an object whose priority and data tell its place.
func object(group, number uint64) api.Object {
	return api.Object{Place: at(group, number), Priority: byte(group*16 + number + 1), Data: []byte{byte(group), byte(number), 7}}
}

func gram(group, number uint64) api.Object {
	o := object(group, number)
	o.Gram = true
	return o
}

// newWorld returns a world whose lines are Up, and at rest.
func newWorld(t *testing.T, c world.Config) *world.World {
	t.Helper()
	w, e := world.New(c)
	checkErrno(t, "New", e, api.OK)
	calm(t, w)
	return w
}

func calm(t *testing.T, w *world.World) {
	t.Helper()
	if n := w.Calm(4000); n == 4000 || !w.Rest() {
		t.Fatalf("after %d rounds, Rest = %v", n, w.Rest())
	}
}

func checkErrno(t *testing.T, what string, got, want api.Errno) {
	t.Helper()
	if got != want {
		t.Fatalf("%s: error %d; want %d", what, got, want)
	}
}

func checkDo(t *testing.T, w *world.World, s world.Step, want api.Errno) {
	t.Helper()
	if e := w.Do(s); e != want {
		t.Fatalf("Do(%+v): error %d; want %d", s, e, want)
	}
}

// do executes steps.
func do(t *testing.T, w *world.World, l ...world.Step) {
	t.Helper()
	for _, s := range l {
		checkDo(t, w, s, api.OK)
	}
}

// settle executes steps, each of which ends before the next one.
func settle(t *testing.T, w *world.World, l ...world.Step) {
	t.Helper()
	for _, s := range l {
		do(t, w, s)
		calm(t, w)
	}
}

func announce(who int, track string) world.Step {
	return world.Step{Kind: world.Announce, Who: who, Track: []byte(track)}
}

func withdraw(who int, track string) world.Step {
	return world.Step{Kind: world.Withdraw, Who: who, Track: []byte(track)}
}

// subscribe is for all groups from one on.
func subscribe(who int, track string, from uint64) world.Step {
	return world.Step{Kind: world.Subscribe, Who: who, Track: []byte(track), Msg: word.Msg{Order: 1, Start: at(from, 0)}}
}

func fetch(who int, track string, from, to api.Place) world.Step {
	return world.Step{Kind: world.Fetch, Who: who, Track: []byte(track), Msg: word.Msg{Start: from, End: to}}
}

func unsubscribe(who int, id uint64) world.Step {
	return world.Step{Kind: world.Unsubscribe, Who: who, Msg: word.Msg{ID: id}}
}

func publish(who int, track string, o api.Object) world.Step {
	return world.Step{Kind: world.Publish, Who: who, Track: []byte(track), Object: o}
}

func network(kind byte, n int) world.Step {
	return world.Step{Kind: kind, N: n}
}

// loseAll loses all that is in flight.
func loseAll(t *testing.T, w *world.World) {
	t.Helper()
	for w.Flying() > 0 {
		do(t, w, network(world.Lose, 0))
	}
}

// got is an object that was received for a Subscribe.
func got(id uint64, track string, o api.Object) world.Got {
	return world.Got{ID: id, Track: []byte(track), Object: o}
}

// answer is what was received for a Fetch, up to its end.
func answer(id uint64, track string, l ...api.Object) []world.Got {
	var all []world.Got
	for _, o := range l {
		all = append(all, world.Got{ID: id, Fetch: true, Track: []byte(track), Object: o})
	}
	return append(all, world.Got{ID: id, Fetch: true, Track: []byte(track), End: true})
}

func same(a, b world.Got) bool {
	return a.ID == b.ID && a.Fetch == b.Fetch && bytes.Equal(a.Track, b.Track) && a.End == b.End && sameObject(a.Object, b.Object)
}

func sameObject(a, b api.Object) bool {
	return a.Place == b.Place && a.Priority == b.Priority && a.Gram == b.Gram && bytes.Equal(a.Data, b.Data)
}

// checkGot checks all that an end received.
func checkGot(t *testing.T, w *world.World, end int, want ...world.Got) {
	t.Helper()
	if l := w.Got(end); !slices.EqualFunc(l, want, same) {
		t.Fatalf("Got(%d) is\n%+v\nwant\n%+v", end, l, want)
	}
}

// ask is a request, of which a test looks at this.
type ask struct {
	kind, id uint64
	state    int
}

func checkAsks(t *testing.T, w *world.World, end int, want ...ask) {
	t.Helper()
	var l []ask
	for _, a := range w.Asks(end) {
		l = append(l, ask{a.Msg.Kind, a.Msg.ID, a.State})
	}
	if !slices.Equal(l, want) {
		t.Fatalf("Asks(%d) = %+v; want %+v", end, l, want)
	}
}

// checkGranted checks that the request of an end is granted.
func checkGranted(t *testing.T, w *world.World, end int, id uint64) {
	t.Helper()
	if !slices.ContainsFunc(w.Asks(end), func(a talk.Ask) bool { return a.Msg.ID == id && a.State == talk.Granted }) {
		t.Fatalf("the request %d of %d is not granted: %+v", id, end, w.Asks(end))
	}
}

func checkFeed(t *testing.T, w *world.World, n int, track string, feed, users int) {
	t.Helper()
	if f, u := w.Hub(n).Feed([]byte(track)), w.Hub(n).Users([]byte(track)); f != feed || u != users {
		t.Fatalf("hub %d: Feed(%q) = %d, Users = %d; want %d, %d", n, track, f, u, feed, users)
	}
}

func checkFlying(t *testing.T, w *world.World, want int) {
	t.Helper()
	if n := w.Flying(); n != want {
		t.Fatalf("Flying() = %d; want %d", n, want)
	}
}
