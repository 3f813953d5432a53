package world

import (
	"colonnade/api"
	"colonnade/item"
	"colonnade/talk"
	"colonnade/word"
)

// inlet is a stream of objects that comes.
type inlet struct {
	id     uint64
	reader *item.Reader
	held   []api.Object // what the node did not get yet
	ended  bool         // nothing comes any more
}

// takeStreams processes what has come on the streams of objects.
func (p *port) takeStreams() {
	for _, id := range p.line.Came() {
		if id != control {
			p.coming = append(p.coming, &inlet{id: id, reader: item.NewReader()})
		}
	}
	var left []*inlet
	for _, s := range p.coming {
		if p.read(s) && !p.deliver(s) {
			left = append(left, s)
		}
	}
	// If the connection is over now, there are none.
	if !p.over {
		p.coming = left
	}
}

// read reads all that has come on a stream, so that no stream waits for the credit that another one holds. It returns false if that was in vain.
func (p *port) read(s *inlet) bool {
	for !s.ended {
		data, done, _, e := p.line.Read(s.id, api.Window)
		if e != api.OK {
			return false
		}
		l, e := s.reader.Put(data, done)
		if e != api.OK {
			p.fail(api.SessionBroken)
			return false
		}
		s.held = append(s.held, l...)
		s.ended = done
		if len(data) == 0 {
			break
		}
	}
	return true
}

// deliver gives the node what has come on a stream, and reports whether that is all. As long as the request waits it is held, as the OK was sent before, and so is on its way.
func (p *port) deliver(s *inlet) bool {
	head, ok := s.reader.Head()
	if !ok || len(s.held) == 0 && !s.ended {
		return false
	}
	a, ok := p.request(head)
	if ok && a.State == talk.Waiting {
		return false
	}
	if ok {
		for _, o := range s.held {
			p.node.object(p.peer, a.Msg, o)
		}
		if s.ended && head.Fetch {
			p.node.finish(p.peer, a.Msg)
		}
	}
	s.held = nil
	return s.ended
}

// takeGrams processes the objects that have come in datagram frames.
func (p *port) takeGrams() {
	for _, b := range p.line.Grams() {
		alias, o, e := item.ReadGram(b)
		if e != api.OK {
			p.fail(api.SessionBroken)
			return
		}
		if a, ok := p.request(item.Head{ID: alias}); ok && a.State == talk.Granted {
			p.node.object(p.peer, a.Msg, o)
		}
	}
}

// request returns the request of the node that a stream with this beginning is for, or false if that is over.
func (p *port) request(h item.Head) (talk.Ask, bool) {
	for _, a := range p.node.session(p.peer).Asks(true) {
		if h.Fetch && a.Msg.Kind == word.Fetch && a.Msg.ID == h.ID || !h.Fetch && a.Msg.Kind == word.Subscribe && a.Msg.Alias == h.ID {
			return a, true
		}
	}
	return talk.Ask{}, false
}
