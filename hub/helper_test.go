package hub_test

import (
	"bytes"
	"slices"
	"testing"

	"colonnade/api"
	"colonnade/hub"
	"colonnade/talk"
	"colonnade/word"
)

const (
	top      = api.MaxNum
	most     = 1048576 // room
	overhead = 16      // of an object on the shelf
	lets     = 9       // requests that a hub permits a peer
	may      = 50      // requests that a peer permits a hub
)

// States of a feed.
const (
	none    = 0
	asked   = 1
	granted = 2
)

func at(group, number uint64) api.Place {
	return api.Place{Group: group, Object: number}
}

// object returns an object with size bytes, which tell the place, as does the priority.
func object(group, number uint64, size int) api.Object {
	return api.Object{Place: at(group, number), Priority: byte(group*16 + number + 1), Data: bytes.Repeat([]byte{byte(group), byte(number)}, size)[:size]}
}

func subscribe(id, alias uint64, track string) word.Msg {
	return word.Msg{Kind: word.Subscribe, ID: id, Alias: alias, Name: []byte(track), Order: 1}
}

func fetch(id uint64, track string, from, to api.Place) word.Msg {
	return word.Msg{Kind: word.Fetch, ID: id, Name: []byte(track), Start: from, End: to}
}

func announce(id uint64, track string) word.Msg {
	return word.Msg{Kind: word.Announce, ID: id, Name: []byte(track)}
}

func unannounce(track string) word.Msg {
	return word.Msg{Kind: word.Unannounce, Name: []byte(track)}
}

// about returns a message that has only an ID.
func about(kind, id uint64) word.Msg {
	return word.Msg{Kind: kind, ID: id}
}

// over returns a message that has an ID and a code.
func over(kind, id, code uint64) word.Msg {
	return word.Msg{Kind: kind, ID: id, Code: code}
}

// okAt returns a SubscribeOK with the largest place that there was.
func okAt(id uint64, place api.Place) word.Msg {
	return word.Msg{Kind: word.SubscribeOK, ID: id, Some: true, Start: place}
}

func maxRequest(n uint64) word.Msg {
	return word.Msg{Kind: word.MaxRequest, N: n}
}

// setupFrom returns the Setup of a side that permits n requests.
func setupFrom(server bool, n uint64) word.Msg {
	if server {
		return word.Msg{Kind: word.ServerSetup, Version: 1, N: n}
	}
	return word.Msg{Kind: word.ClientSetup, Versions: []uint64{1}, N: n}
}

func to(peer uint64, m word.Msg) hub.Said {
	return hub.Said{Peer: peer, Msg: m}
}

// given returns what a user with that ID and alias, with Priority 0 and Order 1, is given.
func given(peer, id, alias uint64, o api.Object) hub.Give {
	return hub.Give{Peer: peer, ID: id, Alias: alias, Object: o, Rank: [3]uint64{0, uint64(o.Priority), o.Group}}
}

// answer returns what a Fetch is given.
func answer(peer, id uint64, l ...api.Object) []hub.Give {
	var gives []hub.Give
	for _, o := range l {
		gives = append(gives, hub.Give{Peer: peer, Fetch: true, ID: id, Object: o})
	}
	return gives
}

func end(peer, id uint64) hub.Give {
	return hub.Give{Peer: peer, Fetch: true, ID: id, End: true}
}

func same(a, b word.Msg) bool {
	return a.Kind == b.Kind && a.ID == b.ID && a.Alias == b.Alias && bytes.Equal(a.Name, b.Name) &&
		a.Priority == b.Priority && a.Order == b.Order && a.Start == b.Start && a.End == b.End && a.Some == b.Some &&
		a.Code == b.Code && bytes.Equal(a.Reason, b.Reason) && a.N == b.N && a.Version == b.Version && slices.Equal(a.Versions, b.Versions)
}

func sameSaid(a, b hub.Said) bool {
	return a.Peer == b.Peer && same(a.Msg, b.Msg)
}

func sameObject(a, b api.Object) bool {
	return a.Place == b.Place && a.Priority == b.Priority && a.Gram == b.Gram && bytes.Equal(a.Data, b.Data)
}

func sameGive(a, b hub.Give) bool {
	return a.Peer == b.Peer && a.Fetch == b.Fetch && a.ID == b.ID && a.Alias == b.Alias && sameObject(a.Object, b.Object) && a.Rank == b.Rank && a.End == b.End
}

func sameAsk(a, b talk.Ask) bool {
	return a.State == b.State && same(a.Msg, b.Msg)
}

func newHub(t *testing.T, room int) *hub.Hub {
	t.Helper()
	h, e := hub.New(room)
	if e != api.OK || h == nil {
		t.Fatalf("New(%d): %d", room, e)
	}
	return h
}

// hubOf returns a hub with peers that are Up, and nothing to be sent.
func hubOf(t *testing.T, peers ...uint64) *hub.Hub {
	t.Helper()
	h := newHub(t, most)
	for _, p := range peers {
		join(t, h, p, true)
		hear(t, h, p, setupFrom(false, may))
	}
	h.Out()
	return h
}

// serving returns a hub with the peers 1 to 4, of which 1 announces the tracks, and nothing to be sent. The others have not answered the hub's Announces.
func serving(t *testing.T, tracks ...string) *hub.Hub {
	t.Helper()
	h := hubOf(t, 1, 2, 3, 4)
	for i, track := range tracks {
		hear(t, h, 1, announce(uint64(2*i), track))
	}
	h.Out()
	return h
}

// feeding returns a hub with the peers 1 to 4, of which 1 announces t and 2 subscribes to it, with the ID 0 and the alias 5; the feed, the hub's request 1 with the alias 0, is granted.
func feeding(t *testing.T) *hub.Hub {
	t.Helper()
	h := serving(t, "t")
	hear(t, h, 2, subscribe(0, 5, "t"))
	hear(t, h, 1, about(word.SubscribeOK, 1))
	h.Out()
	checkFeed(t, h, "t", granted, 1)
	return h
}

func join(t *testing.T, h *hub.Hub, peer uint64, server bool) {
	t.Helper()
	if e := h.Join(peer, server, lets); e != api.OK {
		t.Fatalf("Join(%d): %d", peer, e)
	}
}

func leave(t *testing.T, h *hub.Hub, peer uint64) {
	t.Helper()
	if e := h.Leave(peer); e != api.OK {
		t.Fatalf("Leave(%d): %d", peer, e)
	}
}

// hear makes a hub hear messages of a peer, which its session must accept.
func hear(t *testing.T, h *hub.Hub, peer uint64, l ...word.Msg) {
	t.Helper()
	for _, m := range l {
		if h.Session(peer) == nil {
			t.Fatalf("there is no peer %d", peer)
		}
		if code := h.Hear(peer, m); code != 0 {
			t.Fatalf("Hear(%d, %+v) = %x", peer, m, code)
		}
	}
}

// pass passes objects to a hub.
func pass(t *testing.T, h *hub.Hub, peer, alias uint64, l ...api.Object) {
	t.Helper()
	for _, o := range l {
		checkObject(t, h, peer, alias, o, api.OK)
	}
}

func checkObject(t *testing.T, h *hub.Hub, peer, alias uint64, o api.Object, want api.Errno) {
	t.Helper()
	if e := h.Object(peer, alias, o); e != want {
		t.Fatalf("Object(%d, %d, %+v): %d; want %d", peer, alias, o, e, want)
	}
}

func checkFetched(t *testing.T, h *hub.Hub, peer, id uint64, o api.Object, end bool, want api.Errno) {
	t.Helper()
	if e := h.Fetched(peer, id, o, end); e != want {
		t.Fatalf("Fetched(%d, %d, %+v, %t): %d; want %d", peer, id, o, end, e, want)
	}
}

// checkOut checks what a hub has to send and to give, and that it has it once.
func checkOut(t *testing.T, h *hub.Hub, said []hub.Said, gives []hub.Give) {
	t.Helper()
	l, g := h.Out()
	if !slices.EqualFunc(l, said, sameSaid) {
		t.Fatalf("said is\n%+v\nwant\n%+v", l, said)
	}
	if !slices.EqualFunc(g, gives, sameGive) {
		t.Fatalf("given is\n%+v\nwant\n%+v", g, gives)
	}
	if l, g := h.Out(); len(l)+len(g) > 0 {
		t.Fatalf("Out() = %+v, %+v once more", l, g)
	}
}

// checkSaid checks what a hub has to send, and that it gives nothing.
func checkSaid(t *testing.T, h *hub.Hub, want ...hub.Said) {
	t.Helper()
	checkOut(t, h, want, nil)
}

// checkGiven checks what a hub gives, and that it has nothing to send.
func checkGiven(t *testing.T, h *hub.Hub, want ...hub.Give) {
	t.Helper()
	checkOut(t, h, nil, want)
}

func checkPeers(t *testing.T, h *hub.Hub, want ...uint64) {
	t.Helper()
	if l := h.Peers(); !slices.Equal(l, want) {
		t.Fatalf("Peers() = %d; want %d", l, want)
	}
}

func checkTracks(t *testing.T, h *hub.Hub, want ...string) {
	t.Helper()
	var l []string
	for _, track := range h.Tracks() {
		l = append(l, string(track))
	}
	if !slices.Equal(l, want) {
		t.Fatalf("Tracks() = %q; want %q", l, want)
	}
}

func checkFeed(t *testing.T, h *hub.Hub, track string, feed, users int) {
	t.Helper()
	if f, u := h.Feed([]byte(track)), h.Users([]byte(track)); f != feed || u != users {
		t.Fatalf("Feed(%q) = %d, Users = %d; want %d, %d", track, f, u, feed, users)
	}
}

func checkUsed(t *testing.T, h *hub.Hub, want int) {
	t.Helper()
	if n := h.Used(); n != want {
		t.Fatalf("Used() = %d; want %d", n, want)
	}
}

// checkState checks the state of a request in the session of a peer.
func checkState(t *testing.T, h *hub.Hub, peer, id uint64, want int) {
	t.Helper()
	if a, ok := h.Session(peer).Find(id); !ok || a.State != want {
		t.Fatalf("the request %d of the session with %d is %+v; want the state %d", id, peer, a, want)
	}
}
