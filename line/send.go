package line

import "colonnade/api"

// mostDatagrams is how many datagrams are sent at once.
const mostDatagrams = 16

// Send returns the datagrams to be sent now.
func (l *Line) Send(now uint64) [][]byte {
	if l == nil {
		return nil
	}
	l.pass(now)
	if at, ok := l.end(); ok && l.now >= at {
		l.state = Gone
	}
	switch l.state {
	case Gone:
		return nil
	case Closed:
		return l.farewell()
	}
	l.findLost()
	retried := l.retry()
	sent := l.datagrams()
	l.countTry(retried)
	return sent
}

// Due returns the next tick at which Send has something to do because of time, or false if there is none.
func (l *Line) Due() (uint64, bool) {
	if l == nil || l.isOver() {
		return 0, false
	}
	const never = api.MaxNum + 1
	next := uint64(never)
	if at, ok := l.end(); ok {
		next = min(next, at)
	}
	for _, s := range l.spaces {
		if at, ok := s.ledger.Due(l.clock.Lost()); ok {
			next = min(next, at)
		}
		if last, ok := s.ledger.Last(); ok {
			next = min(next, last+l.clock.Wait(l.tries))
		}
	}
	if next == never {
		return 0, false
	}
	return next, true
}

// end returns when the connection ends if no packet is opened before, or false if it does not.
func (l *Line) end() (uint64, bool) {
	return l.heard + l.idle, l.idle != 0 && !l.isOver()
}

// findLost makes what is lost to be sent again.
func (l *Line) findLost() {
	for _, s := range l.spaces {
		for _, p := range s.ledger.Lost(l.now, l.clock.Lost()) {
			l.meter.Lost(p.Size, p.Sent, l.now)
			l.repeat(s, s.take(p.Number))
		}
	}
}

// retry makes everything in flight at a level to be sent again if nothing was acknowledged for too long. It returns the levels at which it did.
func (l *Line) retry() []*space {
	var retried []*space
	wait := l.clock.Wait(l.tries)
	for _, s := range l.spaces {
		last, ok := s.ledger.Last()
		if !ok || l.now < last+wait {
			continue
		}
		for _, p := range s.ledger.Clear() {
			l.meter.Gone(p.Size)
			l.repeat(s, s.take(p.Number))
		}
		s.extra = true
		retried = append(retried, s)
	}
	return retried
}

// countTry counts a try, unless nothing was left to be sent again, so that lost datagrams don't make this side slow.
func (l *Line) countTry(retried []*space) {
	tried := false
	for _, s := range retried {
		tried = tried || !s.extra
		s.extra = false
	}
	if tried {
		l.tries++
	}
}

// repeat makes what a packet carried to be sent again. Datagrams may be lost.
func (l *Line) repeat(s *space, x load) {
	l.raws.lost(x.raw)
	for _, f := range x.frames {
		switch f.Kind {
		case api.Crypto:
			s.said.lost(f)
		case api.PathResponse:
			l.echoes = append(l.echoes, f.Data)
		default:
			l.table.Lost(f)
		}
	}
}
