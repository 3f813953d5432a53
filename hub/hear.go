package hub

import (
	"colonnade/api"
	"colonnade/word"
)

// Codes of Errors and of SubscribeDone.
const (
	codeKnown   = 1 // another peer announced the track
	codeFull    = 2 // there are too many tracks
	codeEnded   = 3 // the source does not announce the track any more
	codeNone    = 4 // there is no such track for the peer
	codeUnasked = 5 // the source can't be asked
	codeGone    = 6 // the source left
)

// react does what follows from a message that a peer's session accepted.
func (h *Hub) react(p *peer, m word.Msg) {
	switch m.Kind {
	case word.ClientSetup, word.ServerSetup:
		h.welcome(p)
	case word.Announce:
		h.hearAnnounce(p, m)
	case word.Unannounce:
		h.hearUnannounce(p, m)
	case word.Subscribe:
		h.hearSubscribe(p, m)
	case word.Unsubscribe:
		h.hearUnsubscribe(p, m)
	case word.SubscribeOK:
		h.hearSubscribeOK(p, m)
	case word.SubscribeError, word.SubscribeDone:
		h.hearFeedEnd(p, m)
	case word.Fetch:
		h.hearFetch(p, m)
	case word.FetchOK:
		h.hearFetchOK(p, m)
	case word.FetchError:
		h.hearFetchError(p, m)
	case word.FetchCancel:
		h.hearFetchCancel(p, m)
	}
}

// welcome announces all known tracks to a peer.
func (h *Hub) welcome(p *peer) {
	for _, t := range h.tracks {
		h.say(p, word.Msg{Kind: word.Announce, Name: t.name})
	}
}

func (h *Hub) hearAnnounce(p *peer, m word.Msg) {
	switch {
	case h.named(m.Name) != nil:
		h.reply(p, word.AnnounceError, m.ID, codeKnown)
		return
	case len(h.tracks) >= api.MaxTracks:
		h.reply(p, word.AnnounceError, m.ID, codeFull)
		return
	}
	h.know(m.Name, p)
	h.reply(p, word.AnnounceOK, m.ID, 0)
	for _, o := range h.peers {
		if o != p {
			h.say(o, word.Msg{Kind: word.Announce, Name: m.Name})
		}
	}
}

func (h *Hub) hearUnannounce(p *peer, m word.Msg) {
	if t := h.named(m.Name); t != nil && t.source == p {
		h.forget(t, codeEnded)
	}
}

func (h *Hub) hearSubscribe(p *peer, m word.Msg) {
	t := h.named(m.Name)
	if t == nil || t.source == p {
		h.reply(p, word.SubscribeError, m.ID, codeNone)
		return
	}
	if t.feed == none && !h.ask(t) {
		h.reply(p, word.SubscribeError, m.ID, codeUnasked)
		return
	}
	u := &user{peer: p, ask: kept(m)}
	t.users = append(t.users, u)
	if t.feed == granted {
		h.grant(t, u)
	}
}

func (h *Hub) hearUnsubscribe(p *peer, m word.Msg) {
	for _, t := range h.tracks {
		h.release(t, func(u *user) bool { return u.peer == p && u.ask.ID == m.ID })
	}
}

func (h *Hub) hearSubscribeOK(p *peer, m word.Msg) {
	for _, t := range h.feedsAt(p, m.ID) {
		t.feed = granted
		for _, u := range t.users {
			h.grant(t, u)
		}
	}
}

func (h *Hub) hearFeedEnd(p *peer, m word.Msg) {
	for _, t := range h.feedsAt(p, m.ID) {
		t.feed = none
		h.dismiss(t, m.Code)
	}
}

// feedsAt returns the track, if there is one, for whose feed the hub made the Subscribe with that ID at a peer. If that is over there is none: the session accepts messages about it, but they mean nothing any more.
func (h *Hub) feedsAt(p *peer, id uint64) []*track {
	return filter(h.tracks, func(t *track) bool { return t.source == p && t.feed != none && t.id == id })
}

// kept returns what is kept of a request, which shares no memory with it.
func kept(m word.Msg) word.Msg {
	return word.Msg{Kind: m.Kind, ID: m.ID, Alias: m.Alias, Priority: m.Priority, Order: m.Order, Start: m.Start, End: m.End}
}
