package world

import (
	"colonnade/api"
	"colonnade/hub"
	"colonnade/item"
	"colonnade/line"
	"colonnade/talk"
	"colonnade/word"
)

// node is a hub or an end, as its ports see it.
type node interface {
	// join gives the node a port, whose other side it permits lets requests.
	join(p *port, lets uint64)
	// leave says that the connection of a peer is over.
	leave(peer uint64)
	// session returns the session with a peer, or nil if there is none any more.
	session(peer uint64) *talk.Session
	// hear processes a message of a peer, and returns the code with which its connection must be closed, or 0.
	hear(peer uint64, m word.Msg) uint64
	// object processes an object that a peer sent for a granted request of the node.
	object(peer uint64, ask word.Msg, o api.Object)
	// finish processes the end of what a peer sent for a granted Fetch of the node.
	finish(peer uint64, ask word.Msg)
}

// control is the client's first stream.
const control = 0

// port is a side of a connection. It carries the messages and the objects of its node.
type port struct {
	node   node
	peer   uint64 // the number by which the node knows the other side
	server bool
	late   uint64 // how far a group may be behind the newest one
	line   *line.Line
	other  *port
	over   bool // the connection is closed

	begun    bool     // a client has opened its first stream
	messages [][]byte // those to be written
	heard    []byte   // of messages, incomplete
	coming   []*inlet
	flows    []*flow // in the order in which they began
	spared   int     // how many streams were ended as others are needed, which did not begin yet
}

func newPort(n node, number uint64, server bool, late uint64) *port {
	return &port{node: n, peer: number, server: server, late: late, line: line.New(lineConfig(number, server), 0)}
}

// receive processes a datagram.
func (p *port) receive(data []byte, now uint64) {
	p.line.Receive(data, now)
	if p.over {
		return
	}
	p.hear()
	p.takeStreams()
	p.takeGrams()
	p.flush()
	p.notice()
}

// notice tells the node if the connection is over.
func (p *port) notice() {
	if s := p.line.State(); p.over || s != line.Closed && s != line.Gone {
		return
	}
	p.over = true
	p.messages, p.heard, p.coming, p.flows = nil, nil, nil, nil
	p.node.leave(p.peer)
}

// shut closes the connection as nothing is wrong with it.
func (p *port) shut() {
	p.line.Close(api.NoError, false)
	p.notice()
}

// fail closes the connection with a code of its session.
func (p *port) fail(code uint64) {
	p.line.Close(code, true)
	p.notice()
}

// rests reports whether the line has nothing to do.
func (p *port) rests() bool {
	switch p.line.State() {
	case line.Closed, line.Gone:
		return true
	case line.Greeting:
		_, ok := p.line.Due()
		return !ok
	}
	return p.line.Idle()
}

// hear processes the messages that have come.
func (p *port) hear() {
	for !p.over {
		m, rest, e := word.Read(p.heard)
		switch e {
		case api.OK:
			p.heard = rest
			p.hearMessage(m)
		case api.ErrShort:
			data, _, _, _ := p.line.Read(control, api.Window)
			if len(data) == 0 {
				return
			}
			p.heard = append(p.heard, data...)
		default:
			p.fail(api.SessionBroken)
		}
	}
}

func (p *port) hearMessage(m word.Msg) {
	if m.Kind == word.Unsubscribe || m.Kind == word.FetchCancel {
		p.stop(m.ID)
	}
	if code := p.node.hear(p.peer, m); code != 0 {
		p.fail(code)
	}
}

// say sends a message.
func (p *port) say(m word.Msg) {
	if p.over {
		return
	}
	if m.Kind == word.SubscribeDone {
		p.stop(m.ID)
	}
	b, _ := word.Bytes(m)
	p.messages = append(p.messages, b)
	p.speak()
}

// speak writes the messages, as far as there is room. A server can't before it knows the client's first stream.
func (p *port) speak() {
	if !p.server && !p.begun {
		_, e := p.line.Open(false)
		p.begun = e == api.OK
	}
	for len(p.messages) > 0 && p.line.Write(control, p.messages[0], false) == api.OK {
		p.messages = p.messages[1:]
	}
}

// give sends an object for a request of the other side, or the end of the answer to a Fetch. What there is no credit for waits, but no more than that many.
func (p *port) give(g hub.Give) {
	if p.over {
		return
	}
	if g.Object.Gram {
		b, _ := item.Gram(g.Alias, g.Object)
		p.line.Gram(b)
		return
	}
	f := p.flow(g)
	p.renew(f, g)
	if p.isStale(f, g.Object.Group) {
		return
	}
	f.put(g)
	p.flush()
	if p.waiting() > mostWaiting {
		f.drop(g.Object.Place)
	}
}
