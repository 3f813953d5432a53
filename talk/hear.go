package talk

import (
	"slices"

	"colonnade/api"
	"colonnade/word"
)

// hear processes a message, and returns the code if it is wrong.
func (s *Session) hear(m word.Msg) uint64 {
	if !valid(m) {
		return api.SessionBroken
	}
	if !s.met {
		return s.meet(m)
	}
	if isRequest(m.Kind) {
		return s.hearRequest(m)
	}
	if p, ok := stepOf(m.Kind); ok {
		return s.hearStep(m, p)
	}
	switch m.Kind {
	case word.MaxRequest:
		return s.hearMax(m)
	case word.Goaway:
		if !s.server {
			return 0
		}
	}
	return api.SessionBroken
}

// meet processes the first message.
func (s *Session) meet(m word.Msg) uint64 {
	switch {
	case s.server && m.Kind == word.ClientSetup:
		if !slices.Contains(m.Versions, version) {
			return api.SessionVersion
		}
		s.send(word.Msg{Kind: word.ServerSetup, Version: version, N: s.other.may})
	case !s.server && m.Kind == word.ServerSetup:
		if m.Version != version {
			return api.SessionVersion
		}
	default:
		return api.SessionBroken
	}
	s.met = true
	s.own.may = min(m.N, mostRequests)
	return 0
}

func (s *Session) hearRequest(m word.Msg) uint64 {
	switch {
	case m.ID != s.other.next():
		return api.SessionBadID
	case s.other.full():
		return api.SessionTooMany
	case s.other.collides(m):
		return api.SessionAlias
	}
	s.other.add(m)
	return 0
}

func (s *Session) hearStep(m word.Msg, p step) uint64 {
	a := p.target(s.side(!p.asker), m)
	switch {
	case a == nil:
		return api.SessionBroken
	case a.State == Over:
		// The other side did not know yet that it is, when it sent this.
		return 0
	case !p.suits(a):
		return api.SessionBroken
	}
	s.take(p, a)
	return 0
}

func (s *Session) hearMax(m word.Msg) uint64 {
	n := min(m.N, mostRequests)
	if n <= s.own.may {
		return api.SessionBroken
	}
	s.own.may = n
	return 0
}
