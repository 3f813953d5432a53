package loss_test

import (
	"math/bits"
	"math/rand/v2"
	"slices"
	"testing"

	"colonnade/api"
	"colonnade/loss"
)

// model is a ledger of the numbers from base on, one by one.
type model struct {
	base  uint64
	open  [48]*loss.Packet
	next  uint64
	acked []uint64 // each number that was acknowledged
}

// largest returns the largest acknowledged number, or false if there is none.
func (m *model) largest() (uint64, bool) {
	if len(m.acked) == 0 {
		return 0, false
	}
	return slices.Max(m.acked), true
}

// take removes and returns the packets of which goes says so.
func (m *model) take(goes func(loss.Packet) bool) []loss.Packet {
	l := m.which(goes)
	for _, p := range l {
		m.open[p.Number-m.base] = nil
	}
	return l
}

// which returns the packets in flight of which is says so.
func (m *model) which(is func(loss.Packet) bool) []loss.Packet {
	var l []loss.Packet
	for _, p := range m.open {
		if p != nil && is(*p) {
			l = append(l, *p)
		}
	}
	return l
}

func (m *model) below(p loss.Packet) bool {
	n, ok := m.largest()
	return ok && p.Number < n
}

// isLost tells what is lost: at now, the wait has gone by since it was sent, or three numbers after it may have been acknowledged.
func (m *model) isLost(p loss.Packet, now, wait uint64) bool {
	n, _ := m.largest()
	at, carry := bits.Add64(p.Sent, wait, 0)
	return m.below(p) && (carry == 0 && at <= now || p.Number+2 < n)
}

func (m *model) send(p loss.Packet) api.Errno {
	switch {
	case p.Size < 0 || p.Number > api.MaxNum || p.Sent > api.MaxNum:
		return api.ErrArg
	case p.Number < m.next:
		return api.ErrForm
	}
	m.open[p.Number-m.base] = &p
	m.next = p.Number + 1
	return api.OK
}

func (m *model) ack(r []api.Range) ([]loss.Packet, api.Errno) {
	if slices.ContainsFunc(r, func(x api.Range) bool { return x.From > x.To }) {
		return nil, api.ErrForm
	}
	if slices.ContainsFunc(r, func(x api.Range) bool { return x.To >= m.next }) {
		return nil, api.ErrArg
	}
	for _, x := range r {
		for n := x.From; n <= x.To; n++ {
			m.acked = append(m.acked, n)
		}
	}
	return m.take(func(p loss.Packet) bool { return slices.Contains(m.acked, p.Number) }), api.OK
}

// compare checks all that a ledger tells against the model.
func (m *model) compare(t *testing.T, l *loss.Ledger, wait uint64) {
	t.Helper()
	all := m.which(func(loss.Packet) bool { return true })
	if got := l.Open(); !slices.Equal(got, all) {
		t.Fatalf("Open = %v; want %v", got, all)
	}
	if n, ok := l.Acked(); l.Next() != m.next || !same(n, ok, m.largest) {
		t.Fatalf("Next = %d, Acked = %d, %t; want %d, %v", l.Next(), n, ok, m.next, m.acked)
	}
	asks := m.which(func(p loss.Packet) bool { return p.Asks })
	first, ok := l.First()
	at, okLast := l.Last()
	if ok != (len(asks) > 0) || okLast != ok || ok && (first != asks[0] || at != asks[len(asks)-1].Sent) {
		t.Fatalf("First = %v, Last = %d of %v", first, at, asks)
	}
	due := func() (uint64, bool) {
		var times []uint64
		for _, p := range m.which(m.below) {
			times = append(times, p.Sent+min(wait, api.MaxNum))
		}
		if len(times) == 0 {
			return 0, false
		}
		return slices.Min(times), true
	}
	if at, ok := l.Due(wait); !same(at, ok, due) {
		t.Fatalf("Due(%d) = %d, %t of %v", wait, at, ok, m.which(m.below))
	}
}

func same(n uint64, ok bool, want func() (uint64, bool)) bool {
	wanted, wantedOK := want()
	return n == wanted && ok == wantedOK
}

// step changes both in the same way, at random.
func (m *model) step(t *testing.T, l *loss.Ledger, now, wait uint64, random *rand.Rand) {
	t.Helper()
	var got, want []loss.Packet
	var e, wantE api.Errno
	switch k := random.IntN(20); {
	case k == 0:
		got, want = l.Clear(), m.take(func(loss.Packet) bool { return true })
	case k < 4:
		got, want = l.Lost(now, wait), m.take(func(p loss.Packet) bool { return m.isLost(p, now, wait) })
	case k < 8:
		var r []api.Range
		for range random.IntN(4) {
			from := m.next - min(m.next-m.base, random.Uint64N(12))
			r = append(r, api.Range{From: from, To: from + random.Uint64N(4) - random.Uint64N(2)})
		}
		got, e = l.Ack(r)
		want, wantE = m.ack(r)
	default:
		p := loss.Packet{Number: m.next + random.Uint64N(3), Sent: now - min(now, random.Uint64N(5)), Size: random.IntN(50) - 1, Asks: random.IntN(3) > 0}
		if p.Number > 0 && random.IntN(8) == 0 {
			p.Number--
		}
		// The model has no room for more.
		if p.Number-m.base < 48 || p.Number > api.MaxNum {
			e, wantE = l.Send(p), m.send(p)
		}
	}
	if e != wantE || !slices.Equal(got, want) {
		t.Fatalf("%v, %d; want %v, %d", got, e, want, wantE)
	}
}

// Whatever is done, a ledger is what its packets one by one are; also at the ends of what a number and a tick may be.
func TestAgainstModel(t *testing.T) {
	random := rand.New(rand.NewPCG(9, 1))
	for _, base := range []uint64{0, 1, 1 << 32, api.MaxNum - 47, api.MaxNum - 20} {
		for _, start := range []uint64{0, 1000, api.MaxNum - 30, ^uint64(0) - 70} {
			for range 40 {
				m, l := &model{base: base, next: base}, loss.New()
				if base > 0 {
					m.next = base + 1
					m.open[0] = &loss.Packet{Number: base}
					l.Send(*m.open[0])
				}
				for i := range uint64(70) {
					now := start + i
					wait := random.Uint64N(12)
					if random.IntN(8) == 0 {
						wait = now - min(now, random.Uint64N(12))
					}
					m.step(t, l, now, wait, random)
					m.compare(t, l, wait)
				}
			}
		}
	}
}
