package line

import (
	"bytes"

	"colonnade/api"
	"colonnade/frame"
)

// mostAtOnce is how many bytes Gram and Raw take at most.
const mostAtOnce = 1000

// grams is the datagram frames of both directions.
type grams struct {
	lets uint64 // how long one may be that is received, or 0 if none may be
	may  uint64 // how long one may be that is sent
	in   [][]byte
	out  [][]byte
}

// hear stores a received one, if there is room. It returns false if it is not permitted.
func (g *grams) hear(p []byte) bool {
	if g.lets == 0 || uint64(len(p)) > g.lets {
		return false
	}
	if len(g.in) < api.MaxGrams {
		g.in = append(g.in, p)
	}
	return true
}

// addTo adds those to be sent to a packet.
func (g *grams) addTo(b *bundle) {
	for len(g.out) > 0 && b.add(api.Frame{Kind: api.Datagram, Data: g.out[0]}) {
		g.out = g.out[1:]
	}
}

// Gram queues a datagram frame.
func (l *Line) Gram(p []byte) api.Errno {
	if e := l.closed(); e != api.OK {
		return e
	}
	g := &l.grams
	switch {
	case len(p) > mostAtOnce || g.may > 0 && uint64(len(p)) > g.may:
		return api.ErrLong
	case len(g.out) >= api.MaxGrams:
		return api.ErrFull
	case g.may == 0:
		return api.ErrState
	}
	g.out = append(g.out, bytes.Clone(p))
	return api.OK
}

// Grams returns the received datagram frames that it did not return before.
func (l *Line) Grams() [][]byte {
	if l == nil {
		return nil
	}
	in := l.grams.in
	l.grams.in = nil
	return in
}

// raws is what packets are to carry as it is.
type raws struct {
	asked []byte
	again [][]byte // what was lost
}

func (r *raws) isEmpty() bool {
	return len(r.asked) == 0 && len(r.again) == 0
}

// lost makes p to be sent again, if it is any.
func (r *raws) lost(p []byte) {
	if len(p) > 0 {
		r.again = append(r.again, p)
	}
}

// next takes the next ones to be sent, unless they have more than most bytes.
func (r *raws) next(most int) []byte {
	switch {
	case len(r.again) > 0 && len(r.again[0]) <= most:
		p := r.again[0]
		r.again = r.again[1:]
		return p
	case len(r.asked) <= most:
		p := r.asked
		r.asked = nil
		return p
	}
	return nil
}

// Raw makes one of the next App packets carry exactly p.
func (l *Line) Raw(p []byte) api.Errno {
	if e := l.closed(); e != api.OK {
		return e
	}
	switch {
	case len(p) == 0:
		return api.ErrShort
	case len(p) > mostAtOnce:
		return api.ErrLong
	case len(l.raws.asked) > 0:
		return api.ErrFull
	case l.state != Up:
		return api.ErrState
	}
	l.raws.asked = append(bytes.Clone(p), make([]byte, max(leastPlain-len(p), 0))...)
	return api.OK
}

// asks reports whether a packet with this load must be acknowledged. What is no frames is sent until the other side has closed.
func (x load) asks() bool {
	if len(x.raw) == 0 {
		return len(x.frames) > 0
	}
	l, e := frame.All(x.raw)
	return e != api.OK || asks(l)
}
