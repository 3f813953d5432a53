package pipe

import (
	"colonnade/api"
	"colonnade/credit"
	"colonnade/span"
)

// mostWaiting is how many bytes of a stream may wait to be acknowledged.
const mostWaiting = 16384

// sendState is the state of a sending part.
type sendState int

const (
	sendOpen  sendState = iota
	sendEnded           // its end was written
	sendReset
	sendOver // all of it, or that it is reset, was acknowledged
)

// sender is a sending part.
type sender struct {
	state    sendState
	purse    *credit.Purse
	data     []byte    // what was written, from base on
	base     uint64    // the first byte that was not acknowledged
	acked    *span.Set // the bytes from base on that were acknowledged
	lost     *span.Set // those to be sent again
	sent     uint64    // the first byte that was never sent
	endSent  bool      // a frame with the end is in flight, or was acknowledged
	endAcked bool
	code     uint64 // if it is reset
}

func newSender(limit uint64) *sender {
	return &sender{purse: credit.NewPurse(limit), acked: span.New(), lost: span.New()}
}

// grant raises the limit for sending, if the new one is larger.
func (s *sender) grant(limit uint64) {
	if s != nil {
		s.purse.Grant(limit)
	}
}

// isOver reports whether nothing is left to do. A part that a stream does not have is over.
func (s *sender) isOver() bool {
	return s == nil || s.state == sendOver
}

// held returns how many bytes wait to be acknowledged.
func (s *sender) held() int {
	if s == nil {
		return 0
	}
	return len(s.data)
}

// carries reports whether bytes may still be sent.
func (s *sender) carries() bool {
	return s != nil && (s.state == sendOpen || s.state == sendEnded)
}

// written returns how many bytes were written.
func (s *sender) written() uint64 {
	return s.base + uint64(len(s.data))
}

func (s *sender) write(p []byte, end bool) api.Errno {
	if s.state != sendOpen {
		return api.ErrOver
	}
	if len(p) > mostWaiting-len(s.data) {
		return api.ErrFull
	}
	s.data = append(s.data, p...)
	if end {
		s.state = sendEnded
	}
	return api.OK
}

// reset resets the part, and reports whether it did.
func (s *sender) reset(code uint64) bool {
	if !s.carries() {
		return false
	}
	*s = sender{state: sendReset, sent: s.sent, code: code}
	return true
}

// next returns where the bytes to be sent next begin and how many they are, all streams together having that much credit left. It returns false if nothing may be sent. Only the end is to be sent if they are none.
func (s *sender) next(left uint64) (uint64, uint64, bool) {
	if !s.carries() {
		return 0, 0, false
	}
	// What is lost was paid when it was sent first.
	if r, ok := lowest(s.lost); ok {
		return r.From, r.To - r.From + 1, true
	}
	rest := s.written() - s.sent
	n := min(rest, s.purse.Left(), left)
	ends := s.state == sendEnded && !s.endSent && rest == 0
	return s.sent, n, n > 0 || ends
}

// piece returns a frame with n bytes from the offset off on, and with the end if they reach it.
func (s *sender) piece(id, off, n uint64) api.Frame {
	f := api.Frame{Kind: api.Stream, ID: id, Off: off}
	f.Data = append(f.Data, s.data[off-s.base:off-s.base+n]...)
	f.Fin = s.state == sendEnded && off+n == s.written()
	return f
}

// note records that f is sent, and returns how many of its bytes are sent for the first time.
func (s *sender) note(f api.Frame) uint64 {
	s.endSent = s.endSent || f.Fin
	n := uint64(len(f.Data))
	if f.Off < s.sent {
		s.lost.Cut(f.Off, f.Off+n-1)
		return 0
	}
	s.purse.Spend(n)
	s.sent += n
	return n
}

// lose records that f was lost.
func (s *sender) lose(f api.Frame) {
	if !s.carries() {
		return
	}
	if n := uint64(len(f.Data)); n > 0 {
		s.lost.Add(f.Off, f.Off+n-1)
	}
	if f.Fin {
		s.endSent = s.endAcked
	}
}

// acknowledge records that f arrived.
func (s *sender) acknowledge(f api.Frame) {
	if !s.carries() {
		return
	}
	if n := uint64(len(f.Data)); n > 0 {
		s.acked.Add(f.Off, f.Off+n-1)
	}
	s.endAcked = s.endAcked || f.Fin
	s.forget(s.acked.Hole(s.base))
	if s.endAcked && len(s.data) == 0 {
		s.finish()
	}
}

// forget drops the bytes before the offset to, which are acknowledged.
func (s *sender) forget(to uint64) {
	s.data = s.data[to-s.base:]
	if len(s.data) == 0 {
		s.data = nil
	}
	s.base = to
	s.acked.Drop(to)
}

// finish makes the part over, as the other side knows all of it.
func (s *sender) finish() {
	*s = sender{state: sendOver}
}

// lowest returns the range of the smallest numbers, or false if there is none.
func lowest(s *span.Set) (api.Range, bool) {
	l := s.Ranges(s.Len())
	if len(l) == 0 {
		return api.Range{}, false
	}
	return l[len(l)-1], true
}
