package hub

import (
	"cmp"
	"slices"

	"colonnade/api"
	"colonnade/talk"
	"colonnade/word"
)

// peer is one with its session. Once it is removed it has none, so that nothing can be sent to it any more.
type peer struct {
	number  uint64
	session *talk.Session
}

// find returns the peer with that number, or nil if there is none.
func (h *Hub) find(number uint64) *peer {
	if h == nil {
		return nil
	}
	i, ok := h.seekPeer(number)
	if !ok {
		return nil
	}
	return h.peers[i]
}

// seekPeer returns where a peer is or has to be among the others.
func (h *Hub) seekPeer(number uint64) (int, bool) {
	return slices.BinarySearchFunc(h.peers, number, func(p *peer, number uint64) int { return cmp.Compare(p.number, number) })
}

// add adds a peer that isn't there yet.
func (h *Hub) add(number uint64, s *talk.Session) {
	p := &peer{number, s}
	i, _ := h.seekPeer(number)
	h.peers = slices.Insert(h.peers, i, p)
	delete(h.closed, number)
	h.collect(p)
}

// remove removes a peer: what it requested is over, what it announced too, and what was requested of it fails.
func (h *Hub) remove(p *peer) {
	p.session = nil
	h.peers = filter(h.peers, func(o *peer) bool { return o != p })
	for _, t := range h.tracks {
		h.release(t, func(u *user) bool { return u.peer == p })
		if t.source == p {
			h.forget(t, codeGone)
		}
	}
	for _, f := range h.fetches {
		switch p {
		case f.peer:
			h.cancel(f)
		case f.source:
			h.fail(f)
		}
	}
}

// say sends a message to a peer and returns the ID with which it is sent, or false if it can't be sent.
func (h *Hub) say(p *peer, m word.Msg) (uint64, bool) {
	m, e := p.session.Say(m)
	if e != api.OK {
		return 0, false
	}
	h.said = append(h.said, Said{p.number, m})
	h.collect(p)
	return m.ID, true
}

// reply sends a message about a request of a peer.
func (h *Hub) reply(p *peer, kind, id, code uint64) {
	h.say(p, word.Msg{Kind: kind, ID: id, Code: code})
}

// collect takes the messages that a peer's session sends by itself. It is called whenever there may be some, as they have to be in order with the others.
func (h *Hub) collect(p *peer) {
	for _, m := range p.session.Out() {
		h.said = append(h.said, Said{p.number, m})
	}
}
