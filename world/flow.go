package world

import (
	"slices"

	"colonnade/api"
	"colonnade/hub"
	"colonnade/item"
	"colonnade/turn"
)

// mostWaiting is how many objects of a side may wait for credit.
const mostWaiting = 4096

// flow is what is sent for a request of the other side: the objects of a Subscribe, or the answer to a Fetch.
type flow struct {
	id     uint64 // of the request
	fetch  bool
	order  byte       // of the groups of a Subscribe
	newest uint64     // the largest of its groups so far
	queue  []hub.Give // what waits, in the order in which it goes
	open   []*outlet  // the streams in which objects may still go
	ended  []*outlet  // those of groups that may become stale
	done   bool       // the answer to a Fetch has ended
}

// outlet is a stream of objects that goes.
type outlet struct {
	id   uint64
	head item.Head
	last uint64 // the number of its last object
}

// put makes an object wait, behind those that don't come after it.
func (f *flow) put(g hub.Give) {
	i := len(f.queue)
	for i > 0 && turn.Less(g.Rank, f.queue[i-1].Rank) {
		i--
	}
	f.queue = slices.Insert(f.queue, i, g)
}

// drop makes the object at a place no longer wait.
func (f *flow) drop(place api.Place) {
	f.queue = slices.DeleteFunc(f.queue, func(g hub.Give) bool { return g.Object.Place == place })
}

// waiting returns how many objects wait.
func (f *flow) waiting() int {
	n := len(f.queue)
	if n > 0 && f.queue[n-1].End {
		n--
	}
	return n
}

// needs reports whether the next object waits for room in that stream.
func (f *flow) needs(s *outlet) bool {
	return f.fetch || len(f.queue) > 0 && f.queue[0].Object.Group == s.head.Group
}

// flow returns the flow that an object is for.
func (p *port) flow(g hub.Give) *flow {
	for _, f := range p.flows {
		if f.id == g.ID {
			return f
		}
	}
	a, _ := p.node.session(p.peer).Find(g.ID)
	f := &flow{id: g.ID, fetch: g.Fetch, order: a.Msg.Order}
	p.flows = append(p.flows, f)
	return f
}

// waiting returns how many objects wait for credit.
func (p *port) waiting() int {
	n := 0
	for _, f := range p.flows {
		n += f.waiting()
	}
	return n
}

// isStale reports whether a group of a flow is.
func (p *port) isStale(f *flow, group uint64) bool {
	return !f.fetch && turn.Stale(group, f.newest, p.late, f.order)
}

// renew gives up the groups of a flow that become stale by a new object.
func (p *port) renew(f *flow, g hub.Give) {
	if g.Object.Group <= f.newest {
		return
	}
	f.newest = g.Object.Group
	f.queue = slices.DeleteFunc(f.queue, func(g hub.Give) bool { return p.isStale(f, g.Object.Group) })
	f.open = p.reset(f.open, func(s *outlet) bool { return p.isStale(f, s.head.Group) })
	f.ended = p.reset(f.ended, func(s *outlet) bool { return p.isStale(f, s.head.Group) })
}

// reset resets the streams that are meant, and returns the others.
func (p *port) reset(l []*outlet, meant func(*outlet) bool) []*outlet {
	return slices.DeleteFunc(l, func(s *outlet) bool {
		if !meant(s) {
			return false
		}
		// All of it may have been acknowledged already.
		p.line.Reset(s.id, api.SessionOK)
		return true
	})
}

// stop ends the flow for a request that is over.
func (p *port) stop(id uint64) {
	all := func(*outlet) bool { return true }
	p.flows = slices.DeleteFunc(p.flows, func(f *flow) bool {
		if f.id != id {
			return false
		}
		p.reset(f.open, all)
		p.reset(f.ended, all)
		return true
	})
}
