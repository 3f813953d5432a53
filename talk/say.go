package talk

import (
	"colonnade/api"
	"colonnade/word"
)

// say takes note of a message that is to be sent, and returns it as it is sent.
func (s *Session) say(m word.Msg) (word.Msg, api.Errno) {
	if s.code != 0 {
		return m, api.ErrClosed
	}
	if !valid(m) {
		return m, api.ErrForm
	}
	if isRequest(m.Kind) {
		return s.sayRequest(m)
	}
	if p, ok := stepOf(m.Kind); ok {
		return m, s.sayStep(m, p)
	}
	if m.Kind != word.Goaway {
		return m, api.ErrForm
	}
	if !s.server || !s.Up() {
		return m, api.ErrState
	}
	return m, api.OK
}

func (s *Session) sayRequest(m word.Msg) (word.Msg, api.Errno) {
	switch {
	case m.ID != 0:
		return m, api.ErrForm
	case s.own.collides(m):
		return m, api.ErrExists
	case !s.Up():
		return m, api.ErrState
	case s.own.full():
		return m, api.ErrCredit
	}
	m.ID = s.own.next()
	s.own.add(m)
	return m, api.OK
}

// sayStep needs not ask whether the session is Up: otherwise there is no request yet, which is the smaller error.
func (s *Session) sayStep(m word.Msg, p step) api.Errno {
	a := p.target(s.side(p.asker), m)
	if a == nil || !p.suits(a) {
		return api.ErrNone
	}
	s.take(p, a)
	return api.OK
}
