package world

import (
	"slices"

	"colonnade/api"
	"colonnade/hub"
	"colonnade/item"
	"colonnade/turn"
)

// flush sends what waits, as far as there is credit. Messages go first: what is sent for a request must not come long before its OK.
func (p *port) flush() {
	p.speak()
	if len(p.messages) > 0 {
		return
	}
	lacking := 0
	l := slices.DeleteFunc(slices.Clone(p.flows), func(f *flow) bool { return len(f.queue) == 0 })
	for len(l) > 0 {
		i := foremost(l)
		e := p.advance(l[i])
		if e == api.ErrCredit {
			lacking++
		}
		if e != api.OK || len(l[i].queue) == 0 {
			l = slices.Delete(l, i, i+1)
		}
	}
	p.flows = slices.DeleteFunc(p.flows, func(f *flow) bool { return f.done })
	p.spare(lacking)
}

// foremost returns the index of the flow whose next object goes first.
func foremost(l []*flow) int {
	first := 0
	for i, f := range l {
		if turn.Less(f.queue[0].Rank, l[first].queue[0].Rank) {
			first = i
		}
	}
	return first
}

// advance sends the next object of a flow. It returns ErrCredit if that waits for a stream, and ErrFull if it waits for room in one.
func (p *port) advance(f *flow) api.Errno {
	g := f.queue[0]
	e := p.write(f, g)
	if e == api.ErrCredit || e == api.ErrFull {
		return e
	}
	f.queue[0] = hub.Give{}
	f.queue = f.queue[1:]
	return api.OK
}

// write writes an object to its stream.
func (p *port) write(f *flow, g hub.Give) api.Errno {
	s := p.outlet(f, g)
	if s == nil {
		var e api.Errno
		if s, e = p.begin(f, g); e != api.OK {
			return e
		}
	}
	if g.End {
		f.done = true
		return p.line.Write(s.id, nil, true)
	}
	o := g.Object
	b, _ := item.Next(s.head, o)
	e := p.line.Write(s.id, b, false)
	if e == api.OK {
		s.last = o.Object
	}
	return e
}

// outlet returns the stream that an object continues, or nil if it begins another one. Streams that nothing continues any more are ended.
func (p *port) outlet(f *flow, g hub.Give) *outlet {
	var found *outlet
	for _, s := range slices.Clone(f.open) {
		switch {
		case f.fetch || s.continues(g.Object):
			found = s
		case s.head.Group <= g.Object.Group:
			p.end(f, s)
		}
	}
	return found
}

// continues reports whether an object can be the next one of the stream of a group.
func (s *outlet) continues(o api.Object) bool {
	return s.head.Group == o.Group && s.head.Priority == o.Priority && s.last < o.Object
}

// begin begins the stream of an object.
func (p *port) begin(f *flow, g hub.Give) (*outlet, api.Errno) {
	h := item.Head{ID: g.Alias, Group: g.Object.Group, Priority: g.Object.Priority}
	if f.fetch {
		h = item.Head{Fetch: true, ID: f.id}
	}
	id, e := p.line.Open(true)
	if e != api.OK {
		return nil, e
	}
	p.spared = max(p.spared-1, 0)
	p.line.Rank(id, g.Rank)
	b, _ := item.Begin(h)
	p.line.Write(id, b, false)
	s := &outlet{id: id, head: h}
	f.open = append(f.open, s)
	return s, api.OK
}

// end ends the stream of a group.
func (p *port) end(f *flow, s *outlet) {
	p.line.Write(s.id, nil, true)
	f.open = slices.DeleteFunc(f.open, func(o *outlet) bool { return o == s })
	f.ended = append(f.ended, s)
}

// spare ends streams, the oldest first, so that as many objects as lack one can begin one. A group whose stream has ended begins another one if it goes on. Without this, streams that nothing continues could be all that are permitted.
func (p *port) spare(lacking int) {
	for p.spared < lacking {
		f, s := p.idle()
		if s == nil {
			return
		}
		p.end(f, s)
		p.spared++
	}
}

// idle returns the oldest open stream that no object waits for, with its flow, or nil if there is none.
func (p *port) idle() (*flow, *outlet) {
	var owner *flow
	var oldest *outlet
	for _, f := range p.flows {
		for _, s := range f.open {
			if !f.needs(s) && (oldest == nil || s.id < oldest.id) {
				owner, oldest = f, s
			}
		}
	}
	return owner, oldest
}
