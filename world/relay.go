package world

import (
	"colonnade/api"
	"colonnade/hub"
	"colonnade/talk"
	"colonnade/word"
)

// relay is a hub with its ports.
type relay struct {
	hub   *hub.Hub
	ports map[uint64]*port // by the numbers of their peers
}

func newRelay(h *hub.Hub) *relay {
	return &relay{hub: h, ports: map[uint64]*port{}}
}

func (r *relay) join(p *port, lets uint64) {
	r.ports[p.peer] = p
	r.hub.Join(p.peer, p.server, lets)
	r.spread()
}

func (r *relay) leave(peer uint64) {
	r.hub.Leave(peer)
	r.spread()
}

func (r *relay) session(peer uint64) *talk.Session {
	return r.hub.Session(peer)
}

func (r *relay) hear(peer uint64, m word.Msg) uint64 {
	code := r.hub.Hear(peer, m)
	r.spread()
	return code
}

func (r *relay) object(peer uint64, ask word.Msg, o api.Object) {
	if ask.Kind == word.Fetch {
		r.hub.Fetched(peer, ask.ID, o, false)
	} else {
		r.hub.Object(peer, ask.Alias, o)
	}
	r.spread()
}

func (r *relay) finish(peer uint64, ask word.Msg) {
	r.hub.Fetched(peer, ask.ID, api.Object{}, true)
	r.spread()
}

// spread sends what the hub has to send and to give. It is called after each thing that the hub does, so that messages and objects stay in order.
func (r *relay) spread() {
	said, gives := r.hub.Out()
	for _, s := range said {
		r.ports[s.Peer].say(s.Msg)
	}
	for _, g := range gives {
		r.ports[g.Peer].give(g)
	}
}
