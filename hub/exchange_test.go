package hub_test

import (
	"bytes"
	"math/rand/v2"
	"slices"
	"testing"

	"colonnade/api"
	"colonnade/hub"
	"colonnade/talk"
	"colonnade/word"
)

// once is what may be given, or sent, only once for a request.
type once struct {
	fetch bool
	id    uint64
	place api.Place
	end   bool
}

// far is the side of a peer, with the messages on their way to the hub and from it.
type far struct {
	s           *talk.Session
	in, out     []word.Msg
	given, sent map[once]int   // for own requests, and for those of the hub
	streamed    map[uint64]int // how many objects of a Fetch of the hub were sent
}

// net is a hub with peers over wires that are late.
type net struct {
	t      *testing.T
	random *rand.Rand
	h      *hub.Hub
	peers  map[uint64]*far
	alias  uint64
	gives  int
	ends   int
}

func (x *net) join(peer uint64) {
	server, lets := x.random.IntN(2) == 0, 2+x.random.Uint64N(12)
	if e := x.h.Join(peer, server, lets); e != api.OK {
		x.t.Fatalf("Join(%d): %d", peer, e)
	}
	x.peers[peer] = &far{s: talk.New(!server, 5+x.random.Uint64N(40)), given: map[once]int{}, sent: map[once]int{}, streamed: map[uint64]int{}}
	x.collect()
}

func (x *net) leave(peer uint64) {
	leave(x.t, x.h, peer)
	delete(x.peers, peer)
	x.collect()
}

// collect puts all messages on their wires, and takes what is given.
func (x *net) collect() {
	x.t.Helper()
	said, gives := x.h.Out()
	for _, s := range said {
		if p := x.peers[s.Peer]; p != nil {
			p.in = append(p.in, s.Msg)
		}
	}
	for _, g := range gives {
		x.take(g)
	}
	for _, p := range x.peers {
		p.out = append(p.out, p.s.Out()...)
	}
}

// take checks that an object that is given was requested, was not given before, and is what was published.
func (x *net) take(g hub.Give) {
	x.t.Helper()
	p := x.peers[g.Peer]
	if p == nil {
		x.t.Fatalf("%+v is for nobody", g)
	}
	a, ok := p.s.Find(g.ID)
	key := once{g.Fetch, g.ID, g.Object.Place, g.End}
	if p.given[key]++; p.given[key] > 1 {
		x.t.Fatalf("%+v is given again", g)
	}
	if g.End {
		x.ends++
		return
	}
	if !ok || !word.Has(a.Msg, g.Object.Place) || (a.Msg.Kind == word.Fetch) != g.Fetch || a.Msg.Alias != g.Alias {
		x.t.Fatalf("%+v is given for %+v", g, a)
	}
	if !bytes.Equal(g.Object.Data, dataOf(a.Msg.Name, g.Object.Place)) {
		x.t.Fatalf("%q is given for %+v", g.Object.Data, a)
	}
	if p.given[once{fetch: true, id: g.ID, end: true}] > 0 {
		x.t.Fatalf("%+v is given after the end", g)
	}
	x.gives++
}

// dataOf returns what every source publishes at a place of a track.
func dataOf(name []byte, place api.Place) []byte {
	return append(bytes.Clone(name), byte(place.Group), byte(place.Object))
}

// say makes a peer say a message, if it may.
func (x *net) say(peer uint64, m word.Msg) {
	p := x.peers[peer]
	p.out = append(p.out, p.s.Out()...)
	if sent, e := p.s.Say(m); e == api.OK {
		p.out = append(p.out, sent)
	}
	x.collect()
}

// land makes one message arrive, at the hub or at the peer.
func (x *net) land(peer uint64, atHub bool) bool {
	x.t.Helper()
	p := x.peers[peer]
	if atHub && len(p.out) > 0 {
		m := p.out[0]
		p.out = p.out[1:]
		hear(x.t, x.h, peer, m)
		x.collect()
		return true
	}
	if !atHub && len(p.in) > 0 {
		m := p.in[0]
		p.in = p.in[1:]
		if code := p.s.Hear(m); code != 0 {
			x.t.Fatalf("%+v closes the session of %d: %x", m, peer, code)
		}
		x.collect()
		return true
	}
	return false
}

func (x *net) rest() {
	for again := true; again; {
		again = false
		for _, peer := range sorted(x.peers) {
			again = x.land(peer, true) || again
			again = x.land(peer, false) || again
		}
	}
}

// wishes returns a request that a peer may make.
func (x *net) wishes() word.Msg {
	name := []byte(modelNames[x.random.IntN(len(modelNames))])
	place := at(x.random.Uint64N(3), x.random.Uint64N(4))
	x.alias++
	switch x.random.IntN(4) {
	case 0:
		return word.Msg{Kind: word.Announce, Name: name}
	case 1:
		return word.Msg{Kind: word.Fetch, Name: name, Start: place, End: at(place.Group+x.random.Uint64N(2), place.Object+1)}
	default:
		return word.Msg{Kind: word.Subscribe, Alias: x.alias, Name: name, Order: 1, Start: at(place.Group, 0)}
	}
}

// act makes a peer do something about one of the requests that it knows.
func (x *net) act(peer uint64) {
	p := x.peers[peer]
	own := x.random.IntN(3) == 0
	asks := p.s.Asks(own)
	if len(asks) == 0 {
		return
	}
	a := asks[x.random.IntN(len(asks))]
	id, isGranted, rarely := a.Msg.ID, a.State == talk.Granted, x.random.IntN(12) == 0
	switch {
	case own && rarely && a.Msg.Kind == word.Subscribe:
		x.say(peer, about(word.Unsubscribe, id))
	case own && rarely && a.Msg.Kind == word.Fetch:
		x.say(peer, about(word.FetchCancel, id))
	case own && rarely && isGranted && x.random.IntN(6) == 0:
		x.say(peer, unannounce(string(a.Msg.Name)))
	case own:
	case !isGranted && rarely:
		x.say(peer, over(a.Msg.Kind+map[uint64]uint64{word.Subscribe: 2, word.Announce: 2, word.Fetch: 3}[a.Msg.Kind], id, 9))
	case !isGranted:
		x.say(peer, about(map[uint64]uint64{word.Subscribe: word.SubscribeOK, word.Announce: word.AnnounceOK, word.Fetch: word.FetchOK}[a.Msg.Kind], id))
	case a.Msg.Kind == word.Subscribe && rarely:
		x.say(peer, over(word.SubscribeDone, id, 9))
	default:
		x.publish(peer, a.Msg)
	}
}

// publish sends an object for a granted request of the hub. The hub may have ended that already, or not have heard the OK yet.
func (x *net) publish(peer uint64, m word.Msg) {
	p := x.peers[peer]
	switch m.Kind {
	case word.Subscribe:
		place := at(x.random.Uint64N(3), x.random.Uint64N(4))
		if p.sent[once{id: m.ID, place: place}]++; p.sent[once{id: m.ID, place: place}] > 1 {
			return
		}
		x.h.Object(peer, m.Alias, api.Object{Place: place, Priority: 7, Data: dataOf(m.Name, place)})
	case word.Fetch:
		n := p.streamed[m.ID]
		place := at(m.Start.Group, m.Start.Object+uint64(n))
		if last := n > 3; x.h.Fetched(peer, m.ID, api.Object{Place: place, Data: dataOf(m.Name, place)}, last) == api.OK {
			p.streamed[m.ID]++
			if last {
				p.s.Finish(m.ID, false)
			}
		}
	}
	x.collect()
}

// settled checks that a peer and the hub see the same requests.
func (x *net) settled(peer uint64) {
	x.t.Helper()
	p, s := x.peers[peer], x.h.Session(peer)
	for key := range p.given {
		if key.end {
			// The end of a Fetch is no message.
			p.s.Finish(key.id, true)
		}
	}
	if !slices.EqualFunc(s.Asks(true), p.s.Asks(false), sameAsk) || !slices.EqualFunc(s.Asks(false), p.s.Asks(true), sameAsk) {
		x.t.Fatalf("the hub and %d have different requests", peer)
	}
}

// Peers that keep to their sessions are never removed, and the hub's messages never close theirs, however late all arrives. What is given was asked for, is given once, and is what was published.
func TestExchange(t *testing.T) {
	random := rand.New(rand.NewPCG(20, 3))
	gives, ends := 0, 0
	for range 50 {
		x := &net{t: t, random: random, h: newHub(t, 60+random.IntN(2000)), peers: map[uint64]*far{}}
		for p := range uint64(5) {
			x.join(p)
		}
		for range 2000 {
			peer := random.Uint64N(5)
			if x.peers[peer] == nil {
				x.join(peer)
			}
			switch random.IntN(12) {
			case 0:
				if random.IntN(30) == 0 {
					x.leave(peer)
				}
			case 1:
				x.say(peer, x.wishes())
			case 2, 3, 4, 5, 6:
				x.act(peer)
			default:
				x.land(peer, random.IntN(2) == 0)
			}
			for _, track := range x.h.Tracks() {
				if (x.h.Feed(track) != none) != (x.h.Users(track) > 0) {
					t.Fatalf("the feed of %q is %d, with %d users", track, x.h.Feed(track), x.h.Users(track))
				}
			}
		}
		x.rest()
		for peer := range x.peers {
			x.settled(peer)
		}
		gives, ends = gives+x.gives, ends+x.ends
	}
	if gives < 1000 || ends < 100 {
		t.Errorf("only %d objects and %d ends were given", gives, ends)
	}
}
