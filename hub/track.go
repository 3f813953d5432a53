package hub

import (
	"bytes"
	"slices"
	"strconv"

	"colonnade/word"
)

// States of a feed.
const (
	none    = 0
	asked   = 1
	granted = 2
)

// track is a known track.
type track struct {
	name   []byte
	source *peer
	number uint64 // how many tracks were known before; the Alias of the feed
	feed   int
	id     uint64  // of the feed's Subscribe
	users  []*user // in the order of their requests
}

// user is a Subscribe of a peer that is not over.
type user struct {
	peer    *peer
	ask     word.Msg // without Name
	granted bool
}

// key returns the name under which the shelf stores the track's objects. Its own would not do, as the shelf takes names that differ only in zero bytes at their end for the same one.
func (t *track) key() []byte {
	return strconv.AppendUint(nil, t.number, 10)
}

// named returns the track with that name, or nil if it is not known.
func (h *Hub) named(name []byte) *track {
	if h == nil {
		return nil
	}
	i, ok := h.seekTrack(name)
	if !ok {
		return nil
	}
	return h.tracks[i]
}

// seekTrack returns where a track is or has to be among the others.
func (h *Hub) seekTrack(name []byte) (int, bool) {
	return slices.BinarySearchFunc(h.tracks, name, func(t *track, name []byte) int { return bytes.Compare(t.name, name) })
}

// know makes a track known.
func (h *Hub) know(name []byte, source *peer) {
	t := &track{name: bytes.Clone(name), source: source, number: h.known}
	i, _ := h.seekTrack(name)
	h.tracks = slices.Insert(h.tracks, i, t)
	h.known++
}

// forget makes a track no longer known. Its users are told so with the code.
func (h *Hub) forget(t *track, code uint64) {
	h.tracks = filter(h.tracks, func(o *track) bool { return o != t })
	h.stop(t)
	h.dismiss(t, code)
	for _, p := range h.peers {
		if p != t.source {
			// A peer that has not granted the hub's Announce can't be sent this.
			h.say(p, word.Msg{Kind: word.Unannounce, Name: t.name})
		}
	}
	h.shelf.Drop(t.key())
}

// ask subscribes to a track at its source, and reports whether it could.
func (h *Hub) ask(t *track) bool {
	id, ok := h.say(t.source, word.Msg{Kind: word.Subscribe, Alias: t.number, Name: t.name, Order: 1})
	if ok {
		t.feed, t.id = asked, id
	}
	return ok
}

// stop unsubscribes from a track at its source, if it is subscribed to.
func (h *Hub) stop(t *track) {
	if t.feed != none {
		h.say(t.source, word.Msg{Kind: word.Unsubscribe, ID: t.id})
		t.feed = none
	}
}

// grant tells a user that its request is granted.
func (h *Hub) grant(t *track, u *user) {
	last, some := h.shelf.Last(t.key())
	_, u.granted = h.say(u.peer, word.Msg{Kind: word.SubscribeOK, ID: u.ask.ID, Some: some, Start: last})
}

// release makes those that are meant no longer users of a track.
func (h *Hub) release(t *track, meant func(*user) bool) {
	t.users = filter(t.users, func(u *user) bool { return !meant(u) })
	if len(t.users) == 0 {
		h.stop(t)
	}
}

// dismiss ends the requests of all users of a track.
func (h *Hub) dismiss(t *track, code uint64) {
	for _, u := range t.users {
		if u.granted {
			h.reply(u.peer, word.SubscribeDone, u.ask.ID, code)
		} else {
			h.reply(u.peer, word.SubscribeError, u.ask.ID, code)
		}
	}
	t.users = nil
}
