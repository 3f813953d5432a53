package line

import (
	"slices"

	"colonnade/api"
	"colonnade/frame"
)

// hear processes the frames of a packet. It returns 0, or the code with which the connection must be closed.
func (l *Line) hear(level int, pn uint64, plain []byte) uint64 {
	if len(plain) == 0 {
		return api.ProtocolViolation
	}
	frames, e := frame.All(plain)
	if e != api.OK {
		return api.FrameEncoding
	}
	for _, f := range frames {
		if !frame.Fits(f.Kind, level) {
			return api.ProtocolViolation
		}
		if code := l.hearFrame(level, f); code != 0 {
			return code
		}
		if l.state == Gone {
			return 0
		}
	}
	if asks(frames) {
		l.spaces[level].owed.Add(pn, pn)
	}
	return 0
}

func (l *Line) hearFrame(level int, f api.Frame) uint64 {
	switch f.Kind {
	case api.Ack:
		return l.hearAck(level, f)
	case api.Crypto:
		return l.hearCrypto(level, f)
	case api.NewToken, api.HandshakeDone:
		if l.server {
			return api.ProtocolViolation
		}
	case api.PathChallenge:
		l.echoes = append(l.echoes, f.Data)
	case api.Datagram:
		if !l.grams.hear(f.Data) {
			return api.ProtocolViolation
		}
	case api.Close, api.CloseApp:
		l.state = Gone
		l.ending = ending{code: f.Code, app: f.Kind == api.CloseApp}
	default:
		// What is not for streams has no effect there, either.
		return l.table.Hear(f)
	}
	return 0
}

func (l *Line) hearAck(level int, f api.Frame) uint64 {
	s := l.spaces[level]
	largest := f.Ranges[0].To
	if largest >= s.next {
		return api.ProtocolViolation
	}
	for _, p := range s.ack(f.Ranges) {
		l.tries = 0
		if !p.Asks {
			continue
		}
		if p.Number == largest {
			l.clock.Sample(l.now-p.Sent, f.N)
		}
		l.meter.Acked(p.Size, p.Sent)
		l.arrived(s, s.take(p.Number))
	}
	return 0
}

// arrived records that what a packet carried was acknowledged.
func (l *Line) arrived(s *space, x load) {
	for _, f := range x.frames {
		if f.Kind == api.Crypto {
			s.said.arrived(f)
		} else {
			l.table.Acked(f)
		}
	}
}

func (l *Line) hearCrypto(level int, f api.Frame) uint64 {
	q := l.spaces[level].heard
	if f.Off+uint64(len(f.Data)) > q.Read()+api.MaxCrypto {
		return api.CryptoBuffer
	}
	q.Put(f.Off, f.Data, false)
	p, _ := q.Take(api.MaxCrypto)
	return l.shake(level, p)
}

// asks reports whether a packet with these frames must be acknowledged.
func asks(l []api.Frame) bool {
	return slices.ContainsFunc(l, func(f api.Frame) bool { return frame.Asks(f.Kind) })
}
