package pace

import "colonnade/api"

const (
	firstWindow = 12000
	leastWindow = 2400
	// Neither the window nor the bytes in flight are more.
	mostBytes = 1 << 30
)

// Meter controls congestion: it tells how many bytes may be in flight.
type Meter struct {
	window    int
	threshold uint64
	flight    int
	recovered bool   // there was a recovery period
	start     uint64 // of the last one
}

// NewMeter returns a meter with nothing in flight.
func NewMeter() *Meter {
	return &Meter{window: firstWindow, threshold: api.MaxNum}
}

// Send adds n bytes in flight.
func (m *Meter) Send(n int) api.Errno {
	switch {
	case m == nil:
		return api.ErrNone
	case !isSize(n):
		return api.ErrArg
	case n > mostBytes-m.flight:
		return api.ErrFull
	}
	m.flight += n
	return api.OK
}

// Acked removes n bytes in flight that were sent at that tick, and lets the window grow.
func (m *Meter) Acked(n int, sent uint64) api.Errno {
	e := m.Gone(n)
	if e == api.OK && m.afterRecovery(sent) {
		m.grow(n)
	}
	return e
}

// Lost removes n bytes in flight that were sent at that tick, and starts a recovery period.
func (m *Meter) Lost(n int, sent, now uint64) api.Errno {
	e := m.Gone(n)
	if e == api.OK && m.afterRecovery(sent) {
		m.shrink(now)
	}
	return e
}

// Gone removes n bytes in flight.
func (m *Meter) Gone(n int) api.Errno {
	switch {
	case m == nil:
		return api.ErrNone
	case !isSize(n):
		return api.ErrArg
	case n > m.flight:
		return api.ErrNone
	}
	m.flight -= n
	return api.OK
}

// Room returns how many more bytes may be in flight.
func (m *Meter) Room() int {
	if m == nil {
		return 0
	}
	return max(m.window-m.flight, 0)
}

// Told returns the window, the threshold and the bytes in flight.
func (m *Meter) Told() (int, uint64, int) {
	if m == nil {
		return 0, 0, 0
	}
	return m.window, m.threshold, m.flight
}

// afterRecovery reports whether that tick is after the start of the last recovery: what was sent before says nothing about the window since.
func (m *Meter) afterRecovery(sent uint64) bool {
	return !m.recovered || sent > m.start
}

func (m *Meter) grow(n int) {
	if uint64(m.window) >= m.threshold {
		n = api.MaxPacket * n / m.window
	}
	m.window = min(m.window+n, mostBytes)
}

func (m *Meter) shrink(now uint64) {
	m.recovered, m.start = true, now
	m.window = max(m.window/2, leastWindow)
	m.threshold = uint64(m.window)
}

// isSize reports whether a packet may have n bytes.
func isSize(n int) bool {
	return n >= 0 && n <= api.MaxPacket
}
