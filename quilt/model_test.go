package quilt_test

import (
	"math/rand/v2"
	"testing"

	"colonnade/api"
	"colonnade/quilt"
)

// model is a stream byte by byte.
type model struct {
	has   map[uint64]byte // what is not read, too
	high  uint64
	end   uint64
	ended bool
	read  uint64
}

func (m *model) put(off uint64, p []byte, end bool) api.Errno {
	to := off + uint64(len(p))
	switch {
	case to > api.MaxNum:
		return api.ErrArg
	case m.ended && to > m.end, m.ended && end && to != m.end, end && to < m.high:
		return api.ErrForm
	}
	for i, b := range p {
		if _, ok := m.has[off+uint64(i)]; !ok {
			m.has[off+uint64(i)] = b
		}
	}
	m.high = max(m.high, to)
	if end {
		m.end, m.ended = to, true
	}
	return api.OK
}

// next returns the bytes that can be read.
func (m *model) next() []byte {
	var p []byte
	for at := m.read; ; at++ {
		b, ok := m.has[at]
		if !ok {
			return p
		}
		p = append(p, b)
	}
}

func (m *model) told() state {
	held := len(m.has) - int(m.read)
	return state{len(m.next()), m.high, m.end, m.ended, m.read, held, m.ended && m.read == m.end}
}

// step changes both in the same way, at random: pieces begin within span bytes from base on.
func (m *model) step(t *testing.T, q *quilt.Quilt, base, span uint64, random *rand.Rand) {
	t.Helper()
	if random.IntN(4) == 0 {
		next := m.next()
		most := random.IntN(int(span)) - 3
		next = next[:min(max(most, 0), len(next))]
		m.read += uint64(len(next))
		checkTake(t, q, most, string(next), m.ended && m.read == m.end)
		return
	}
	off := base + random.Uint64N(span)
	if random.IntN(3) == 0 {
		off = max(m.read, 5) - random.Uint64N(5)
	}
	p := make([]byte, random.Uint64N(span/3))
	for i := range p {
		p[i] = byte(random.Uint32())
	}
	end := random.IntN(30) == 0
	want := m.put(off, p, end)
	if e := q.Put(off, p, end); e != want {
		t.Fatalf("Put(%d, %d bytes, %t): %d; want %d", off, len(p), end, e, want)
	}
}

// Whatever is done, a quilt is what its bytes one by one are; also at the end of what an offset may be.
func TestAgainstModel(t *testing.T) {
	random := rand.New(rand.NewPCG(10, 1))
	for _, span := range []uint64{6, 40, 150, 600} {
		for _, base := range []uint64{0, 50, 1 << 32, api.MaxNum - span, api.MaxNum - span/2} {
			for range 60 {
				m, q := &model{has: map[uint64]byte{}}, quilt.New()
				for range 60 {
					m.step(t, q, base, span, random)
					if got, want := told(q), m.told(); got != want {
						t.Fatalf("%+v; want %+v", got, want)
					}
				}
			}
		}
	}
}
