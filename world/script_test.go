package world_test

import (
	"bytes"
	"math/rand/v2"
	"testing"

	"colonnade/api"
	"colonnade/line"
	"colonnade/talk"
	"colonnade/word"
	"colonnade/world"
)

// owed is an object that an end must receive for a request.
type owed struct {
	end   int
	id    uint64
	track string
	o     api.Object
}

// script is a world with random steps, and what was published in it.
type script struct {
	t         *testing.T
	random    *rand.Rand
	c         world.Config
	w         *world.World
	published map[string]map[api.Place][]api.Object // by all ends together
	owed      []owed
	seen      []int // how many of each end's objects were checked
	asked     []map[uint64]word.Msg
	had       []map[uint64]map[api.Place]int
	ended     []map[uint64]bool
	mild      bool   // nothing is broken or withdrawn, and each track has one source
	span      uint64 // how many groups there are, and objects of a group
	lands     int    // of 100 steps, how many let something arrive
	grams     int
	steps     map[byte]int
}

var scriptTracks = []string{"a", "b", "cc", "a\x00"}

// layout returns a random world. Without a cycle of hubs no message can go round for ever.
func layout(random *rand.Rand, cycles bool) world.Config {
	c := world.Config{Hubs: 1 + random.IntN(4), Room: 1 + random.IntN(1+random.IntN(5000)), Lets: 4 + random.Uint64N(60), Late: 1 + random.Uint64N(4)}
	if random.IntN(2) == 0 {
		c.Late = far
	}
	for range 2 + random.IntN(5) {
		c.Homes = append(c.Homes, random.IntN(c.Hubs))
	}
	for n := 1; n < c.Hubs; n++ {
		other := random.IntN(n)
		if random.IntN(2) == 0 {
			c.Links = append(c.Links, [2]int{n, other})
		} else {
			c.Links = append(c.Links, [2]int{other, n})
		}
	}
	if cycles && c.Hubs > 1 {
		for range random.IntN(3) {
			a := random.IntN(c.Hubs)
			c.Links = append(c.Links, [2]int{a, (a + 1 + random.IntN(c.Hubs-1)) % c.Hubs})
		}
	}
	return c
}

func newScript(t *testing.T, random *rand.Rand, mild bool) *script {
	x := &script{t: t, random: random, published: map[string]map[api.Place][]api.Object{}, mild: mild, steps: map[byte]int{}}
	x.span, x.lands = 2+random.Uint64N(1+random.Uint64N(60)), random.IntN(60)
	var e api.Errno = api.ErrArg
	for e != api.OK {
		x.c = layout(random, mild)
		x.w, e = world.New(x.c)
	}
	for range x.c.Homes {
		x.seen = append(x.seen, 0)
		x.asked = append(x.asked, map[uint64]word.Msg{})
		x.had = append(x.had, map[uint64]map[api.Place]int{})
		x.ended = append(x.ended, map[uint64]bool{})
	}
	return x
}

// step returns a random step.
func (x *script) step() world.Step {
	random := x.random
	who := random.IntN(len(x.c.Homes))
	n := random.IntN(len(scriptTracks))
	s := world.Step{Who: who, Track: []byte(scriptTracks[n])}
	switch k := random.IntN(100); {
	case k < 80 && k >= 38+x.lands*42/60:
		return x.publishing(who, n)
	case k < 4:
		s.Kind = world.Announce
		if x.mild {
			s.Who = n % len(x.c.Homes)
		}
	case k < 12:
		s.Kind = world.Subscribe
		s.Msg = word.Msg{Priority: byte(random.IntN(3)), Order: 1 + byte(random.IntN(2)), Start: at(random.Uint64N(3), random.Uint64N(3))}
		if random.IntN(3) == 0 {
			s.Msg.End.Group = s.Msg.Start.Group + 1 + random.Uint64N(4)
		}
	case k < 15:
		s.Kind = world.Fetch
		from := at(random.Uint64N(4), random.Uint64N(4))
		s.Msg = word.Msg{Priority: byte(random.IntN(3)), Start: from, End: at(from.Group+random.Uint64N(2), from.Object+random.Uint64N(4))}
	case k < 18:
		s.Kind = world.Unsubscribe
		if l := x.w.Asks(who); len(l) > 0 {
			s.Msg.ID = l[random.IntN(len(l))].Msg.ID
		}
	case k < 38:
		return x.publishing(who, n)
	case k < 38+x.lands*42/60:
		s.Kind, s.N = world.Land, random.IntN(1+random.IntN(20))
	case k < 85:
		s.Kind, s.N = world.Lose, random.IntN(100)
	case k < 90:
		s.Kind, s.N = world.Double, random.IntN(100)
	case k < 94:
		s.Kind, s.N, s.By = world.Turn, random.IntN(100), byte(random.Uint32())
	case k < 98 || x.mild || random.IntN(4) > 0:
		s.Kind, s.N = world.Tick, random.IntN(60)
	case random.IntN(4) > 0:
		s.Kind = world.Withdraw
	default:
		s.Kind, s.N = world.Break, random.IntN(100)
	}
	return s
}

// publishing returns a step that publishes a random object of a track.
func (x *script) publishing(who, track int) world.Step {
	random := x.random
	if x.mild {
		who = track % len(x.c.Homes)
	}
	o := api.Object{Place: at(random.Uint64N(x.span), random.Uint64N(x.span)), Priority: byte(random.IntN(2)), Gram: random.IntN(5) == 0}
	o.Data = make([]byte, random.IntN(1+random.IntN(2048)))
	if o.Gram {
		o.Data = o.Data[:min(len(o.Data), 900)]
	}
	for i := range o.Data {
		o.Data[i] = byte(random.Uint32())
	}
	return publish(who, scriptTracks[track], o)
}

// granted returns the granted Subscribes of an end that request an object of a track.
func (x *script) granted(end int, track []byte, place api.Place) []uint64 {
	var ids []uint64
	for _, a := range x.w.Asks(end) {
		if a.Msg.Kind == word.Subscribe && a.State == talk.Granted && bytes.Equal(a.Msg.Name, track) && word.Has(a.Msg, place) {
			ids = append(ids, a.Msg.ID)
		}
	}
	return ids
}

// perform executes a step, and takes note of what follows from it.
func (x *script) perform(s world.Step) {
	x.t.Helper()
	var debts []owed
	if s.Kind == world.Publish && !s.Object.Gram {
		for end := range x.c.Homes {
			for _, id := range x.granted(end, s.Track, s.Object.Place) {
				debts = append(debts, owed{end, id, string(s.Track), s.Object})
			}
		}
	}
	e := x.w.Do(s)
	if e == api.OK {
		x.steps[s.Kind]++
	}
	if e == api.OK && s.Kind == world.Publish {
		name := string(s.Track)
		if x.published[name] == nil {
			x.published[name] = map[api.Place][]api.Object{}
		}
		x.published[name][s.Object.Place] = append(x.published[name][s.Object.Place], s.Object)
		x.owed = append(x.owed, debts...)
	}
	for end := range x.c.Homes {
		for _, a := range x.w.Asks(end) {
			x.asked[end][a.Msg.ID] = a.Msg
		}
	}
}

// check checks what must hold at any time.
func (x *script) check() {
	x.t.Helper()
	for end := range x.c.Homes {
		l := x.w.Got(end)
		for _, g := range l[x.seen[end]:] {
			x.checkGot(end, g)
		}
		x.seen[end] = len(l)
	}
	for _, l := range x.w.Lines() {
		flight, window, unread := l.Told()
		if flight > 2*window+3*api.MaxPacket || unread > api.Credit {
			x.t.Fatalf("%d bytes in flight with a window of %d, %d unread", flight, window, unread)
		}
		if code, app, _ := l.Code(); code != 0 || app || x.mild && (l.State() == line.Closed || l.State() == line.Gone) {
			x.t.Fatalf("a line is in state %d with code %x, %v", l.State(), code, app)
		}
	}
	for n := range x.c.Hubs {
		x.checkHub(n)
	}
	if x.w.Forged() != 0 {
		x.t.Fatal("a datagram was forged")
	}
}

// checkGot checks that an object was published, was requested, and is received once.
func (x *script) checkGot(end int, g world.Got) {
	x.t.Helper()
	m, ok := x.asked[end][g.ID]
	if !ok || string(m.Name) != string(g.Track) || g.Fetch != (m.Kind == word.Fetch) || x.ended[end][g.ID] {
		x.t.Fatalf("%+v is received by %d for %+v", g, end, m)
	}
	if g.End {
		x.ended[end][g.ID] = true
		return
	}
	if x.had[end][g.ID] == nil {
		x.had[end][g.ID] = map[api.Place]int{}
	}
	x.had[end][g.ID][g.Object.Place]++
	if n := x.had[end][g.ID][g.Object.Place]; n > 1 || !word.Has(m, g.Object.Place) {
		x.t.Fatalf("%+v is received by %d for %+v, %d times", g, end, m, n)
	}
	for _, o := range x.published[string(g.Track)][g.Object.Place] {
		if o.Priority == g.Object.Priority && bytes.Equal(o.Data, g.Object.Data) && (o.Gram == g.Object.Gram || g.Fetch) {
			if o.Gram {
				x.grams++
			}
			return
		}
	}
	x.t.Fatalf("%+v was not published like that", g)
}

// checkHub checks the bounds of a hub, and its feeds.
func (x *script) checkHub(n int) {
	x.t.Helper()
	h := x.w.Hub(n)
	if h.Used() > x.c.Room {
		x.t.Fatalf("the shelf of hub %d uses %d", n, h.Used())
	}
	feeds := map[string]int{}
	for _, peer := range h.Peers() {
		if h.Session(peer).Code() != 0 {
			x.t.Fatalf("the session of hub %d with %d has the code %x", n, peer, h.Session(peer).Code())
		}
		for _, a := range h.Session(peer).Asks(true) {
			if a.Msg.Kind == word.Subscribe {
				feeds[string(a.Msg.Name)]++
			}
		}
	}
	for _, track := range h.Tracks() {
		want := 0
		if h.Users(track) > 0 {
			want = 1
		}
		if feeds[string(track)] != want || (h.Feed(track) != 0) != (want == 1) {
			x.t.Fatalf("hub %d has %d feeds of %q for %d users", n, feeds[string(track)], track, h.Users(track))
		}
	}
}

// settled checks that all has arrived that must.
func (x *script) settled() {
	x.t.Helper()
	n := x.w.Calm(4000)
	x.check()
	if n == 4000 || !x.w.Rest() {
		x.t.Fatalf("%d rounds, Rest = %v, %d in flight; %+v", n, x.w.Rest(), x.w.Flying(), x.c)
	}
	if !x.mild {
		return
	}
	for _, d := range x.owed {
		if x.newest(d.track)-d.o.Group > x.c.Late {
			continue
		}
		isOver := true
		for _, a := range x.w.Asks(d.end) {
			isOver = isOver && a.Msg.ID != d.id
		}
		if !isOver && x.had[d.end][d.id][d.o.Place] != 1 {
			x.t.Fatalf("%d has not received %+v for %d", d.end, d.o.Place, d.id)
		}
	}
}

// newest returns the largest group of a track.
func (x *script) newest(track string) uint64 {
	var newest uint64
	for place := range x.published[track] {
		newest = max(newest, place.Group)
	}
	return newest
}

// Whatever happens, in whichever order: what is received was published and requested, nothing is received twice, all stays within its bounds, and hubs have the feeds that they need. If nothing is broken or withdrawn, all arrives.
func TestScripts(t *testing.T) {
	random := rand.New(rand.NewPCG(21, 1))
	steps := map[byte]int{}
	objects, debts, grams, ends := 0, 0, 0, 0
	for round := range 30 {
		x := newScript(t, random, round%2 == 0)
		for range 12 {
			for range 100 {
				x.perform(x.step())
				x.check()
			}
			x.settled()
		}
		for kind, n := range x.steps {
			steps[kind] += n
		}
		for end := range x.had {
			for _, m := range x.had[end] {
				objects += len(m)
			}
			ends += len(x.ended[end])
		}
		debts, grams = debts+len(x.owed), grams+x.grams
	}
	for kind := range byte(12) {
		if steps[kind] < 3 {
			t.Errorf("there were %d steps of kind %d", steps[kind], kind)
		}
	}
	if objects < 2000 || debts < 2000 || grams < 200 || ends < 100 {
		t.Errorf("only %d objects were received, of %d owed ones, with %d Grams and %d ends", objects, debts, grams, ends)
	}
}
