package world

import (
	"bytes"
	"slices"

	"colonnade/api"
)

// turned is where a datagram is changed: in its first packet, which is longer than that, behind the names in its header. So none of its packets may be opened.
const turned = 28

// datagram is one in flight.
type datagram struct {
	to   *port
	data []byte
}

// handle does what a step says about a datagram in flight.
func (w *World) handle(s Step) api.Errno {
	if len(w.flying) == 0 {
		return api.ErrNone
	}
	i := s.N % len(w.flying)
	d := w.flying[i]
	if s.Kind != Double {
		w.flying = slices.Delete(w.flying, i, i+1)
	}
	switch s.Kind {
	case Land, Double:
		w.land(d)
	case Turn:
		w.turn(d, s.By)
	}
	return api.OK
}

func (w *World) land(d datagram) {
	d.to.receive(d.data, w.now)
}

// turn lets a datagram arrive changed, and counts it if it is opened nevertheless.
func (w *World) turn(d datagram, by byte) {
	d.data = bytes.Clone(d.data)
	d.data[min(turned, len(d.data)-1)] ^= by
	before := d.to.line.Opened()
	w.land(d)
	if by != 0 && d.to.line.Opened() > before {
		w.forged++
	}
}

// send puts all that is to be sent now in flight.
func (w *World) send() {
	for _, p := range w.ports {
		for l := p.line.Send(w.now); len(l) > 0; l = p.line.Send(w.now) {
			for _, data := range l {
				w.flying = append(w.flying, datagram{p.other, data})
			}
		}
	}
}

// round lets all that is in flight arrive, or else time advance to what is due next. It returns false if there is nothing to do.
func (w *World) round() bool {
	l := w.flying
	w.flying = nil
	for _, d := range l {
		w.land(d)
	}
	if len(l) == 0 {
		at, ok := w.due()
		if !ok {
			return false
		}
		w.now = max(w.now, at)
	}
	w.send()
	return true
}

// wait lets n ticks pass, and in each of them happen what is due.
func (w *World) wait(n uint64) {
	for end := w.now + n; w.now < end; w.send() {
		next := end
		if at, ok := w.due(); ok {
			next = min(next, at)
		}
		w.now = max(next, w.now+1)
	}
}

// due returns the time at which a line has something to do next, or false if none has.
func (w *World) due() (uint64, bool) {
	var next uint64
	some := false
	for _, p := range w.ports {
		if at, ok := p.line.Due(); ok && (!some || at < next) {
			next, some = at, true
		}
	}
	return next, some
}
