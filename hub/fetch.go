package hub

import (
	"colonnade/api"
	"colonnade/word"
)

// fetch is a Fetch of a peer, which is not over, and that of the hub at the source.
type fetch struct {
	peer    *peer
	ask     word.Msg // the peer's, without Name
	source  *peer
	id      uint64 // of the hub's
	granted bool
}

func (h *Hub) hearFetch(p *peer, m word.Msg) {
	t := h.named(m.Name)
	if t == nil {
		h.reply(p, word.FetchError, m.ID, codeNone)
		return
	}
	if l, ok := h.shelf.Run(t.key(), m.Start, m.End); ok {
		h.serve(p, m.ID, l)
		return
	}
	if t.source == p {
		h.reply(p, word.FetchError, m.ID, codeNone)
		return
	}
	id, ok := h.say(t.source, word.Msg{Kind: word.Fetch, Name: m.Name, Priority: m.Priority, Start: m.Start, End: m.End})
	if !ok {
		h.reply(p, word.FetchError, m.ID, codeUnasked)
		return
	}
	h.fetches = append(h.fetches, &fetch{peer: p, ask: kept(m), source: t.source, id: id})
}

func (h *Hub) hearFetchOK(p *peer, m word.Msg) {
	for _, f := range h.fetchesAt(p, m.ID) {
		f.granted = true
		h.reply(f.peer, word.FetchOK, f.ask.ID, 0)
	}
}

func (h *Hub) hearFetchError(p *peer, m word.Msg) {
	for _, f := range h.fetchesAt(p, m.ID) {
		h.reply(f.peer, word.FetchError, f.ask.ID, m.Code)
		h.close(f)
	}
}

func (h *Hub) hearFetchCancel(p *peer, m word.Msg) {
	for _, f := range filter(h.fetches, func(f *fetch) bool { return f.peer == p && f.ask.ID == m.ID }) {
		h.cancel(f)
	}
}

// fetchesAt returns the fetch, if there is one, for which the hub made the Fetch with that ID at a peer.
func (h *Hub) fetchesAt(p *peer, id uint64) []*fetch {
	return filter(h.fetches, func(f *fetch) bool { return f.source == p && f.id == id })
}

// serve answers a Fetch of a peer with objects from the shelf.
func (h *Hub) serve(p *peer, id uint64, l []api.Object) {
	h.reply(p, word.FetchOK, id, 0)
	for _, o := range l {
		h.give(Give{Peer: p.number, Fetch: true, ID: id, Object: o})
	}
	h.finish(p, id)
}

// finish gives the end of a granted Fetch of a peer, with which it is over.
func (h *Hub) finish(p *peer, id uint64) {
	h.give(Give{Peer: p.number, Fetch: true, ID: id, End: true})
	p.session.Finish(id, false)
	h.collect(p)
}

// complete finishes a fetch of which the source has given all.
func (h *Hub) complete(f *fetch) {
	f.source.session.Finish(f.id, true)
	h.finish(f.peer, f.ask.ID)
	h.close(f)
}

// cancel tells the source that the peer wants no more.
func (h *Hub) cancel(f *fetch) {
	h.say(f.source, word.Msg{Kind: word.FetchCancel, ID: f.id})
	h.close(f)
}

// fail tells the peer that the source left.
func (h *Hub) fail(f *fetch) {
	if f.granted {
		h.finish(f.peer, f.ask.ID)
	} else {
		h.reply(f.peer, word.FetchError, f.ask.ID, codeGone)
	}
	h.close(f)
}

// close takes a fetch that is over off the list.
func (h *Hub) close(f *fetch) {
	h.fetches = filter(h.fetches, func(o *fetch) bool { return o != f })
}
