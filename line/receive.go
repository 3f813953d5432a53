package line

import (
	"bytes"

	"colonnade/api"
	"colonnade/head"
	"colonnade/parcel"
)

// Receive processes a received datagram.
func (l *Line) Receive(p []byte, now uint64) {
	if l == nil {
		return
	}
	l.pass(now)
	answers := l.state == Closed
	for len(p) > 0 {
		rest, ok := l.open(p)
		if !ok {
			break
		}
		p = rest
	}
	// Two sides that have both closed would answer each other for ever.
	if answers && !l.ending.mutual {
		l.ending.owed = true
	}
}

// open processes the packet at the beginning of p and returns what is after it, or false if it is not opened.
func (l *Line) open(p []byte) ([]byte, bool) {
	h, _, _, e := head.Read(p)
	if e != api.OK || !l.isAddressed(h) {
		return nil, false
	}
	keys := l.keysFor(h)
	if keys == nil {
		return nil, false
	}
	largest, some := l.spaces[h.Level].came.Largest()
	h, pn, plain, rest, e := parcel.Open(keys.open, p, largest, some)
	if e != api.OK {
		return nil, false
	}
	l.opened++
	l.heard = l.now
	if !l.met {
		l.meet(h, keys)
	}
	l.process(h.Level, pn, plain)
	return rest, true
}

// isAddressed reports whether a packet is addressed to this side. A server that was not addressed yet may be with any name, as a client chooses it.
func (l *Line) isAddressed(h api.Head) bool {
	if bytes.Equal(h.To, l.name[:]) {
		return true
	}
	return l.server && (!l.met || bytes.Equal(h.To, l.first))
}

// keysFor returns the keys that a packet is opened with, or nil if there are none.
func (l *Line) keysFor(h api.Head) *pair {
	if l.server && !l.met && h.Level == api.Initial {
		return l.draw(parcel.First(h.To))
	}
	return l.spaces[h.Level].keys
}

// meet takes from the first packet that is opened, which is an Initial, how the sides address each other. Only now is it known that the names are not garbage.
func (l *Line) meet(h api.Head, keys *pair) {
	l.met = true
	l.peer = [api.IDLen]byte{}
	copy(l.peer[:], h.From)
	if l.server {
		l.first = h.To
		l.spaces[api.Initial].keys = keys
	}
}

// process processes what an opened packet carries.
func (l *Line) process(level int, pn uint64, plain []byte) {
	s := l.spaces[level]
	if s.came.Has(pn) || level == api.App && l.state == Greeting {
		return
	}
	switch l.state {
	case Gone:
	case Closed:
		l.ending.mutual = l.ending.mutual || closes(plain)
	default:
		s.note(pn, l.now)
		if code := l.hear(level, pn, plain); code != 0 {
			l.close(code, false)
		}
	}
}
