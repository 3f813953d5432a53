package line

import (
	"colonnade/api"
	"colonnade/head"
	"colonnade/loss"
	"colonnade/quilt"
	"colonnade/span"
)

// load is what a packet carries that must be acknowledged.
type load struct {
	frames []api.Frame
	raw    []byte
}

// space is what each level has of its own.
type space struct {
	keys *pair // nil as long as there are none

	next   uint64          // the number of the next packet
	ledger *loss.Ledger    // the packets in flight that must be acknowledged
	loads  map[uint64]load // of those, by number
	said   speech
	extra  bool // one packet may be sent whatever the meter permits

	came   *span.Set // the numbers of what was received
	owed   *span.Set // those of them that are still to be acknowledged
	latest uint64    // when the largest of them was received
	heard  *quilt.Quilt
}

func newSpace() *space {
	return &space{
		ledger: loss.New(),
		loads:  make(map[uint64]load),
		said:   newSpeech(),
		came:   span.New(),
		owed:   span.New(),
		heard:  quilt.New(),
	}
}

// idle reports whether nothing is to be sent or in flight.
func (s *space) idle() bool {
	return len(s.loads) == 0 && s.said.todo.Len() == 0 && s.owed.Len() == 0
}

// note records that a packet was received.
func (s *space) note(pn, now uint64) {
	if largest, ok := s.came.Largest(); !ok || pn > largest {
		s.latest = now
	}
	s.came.Add(pn, pn)
}

// numberSize returns how many bytes the number of the next packet needs.
func (s *space) numberSize() int {
	acked, ok := s.ledger.Acked()
	return head.Need(s.next, acked, ok)
}

// ack returns the packets in flight that ranges acknowledge, all of which were sent.
func (s *space) ack(ranges []api.Range) []loss.Packet {
	// The ledger gets to know a packet that need not be acknowledged only if it is, as it would stay there otherwise.
	if largest := ranges[0].To; largest >= s.ledger.Next() {
		s.ledger.Send(loss.Packet{Number: largest})
	}
	l, _ := s.ledger.Ack(ranges)
	return l
}

// take removes and returns what a packet in flight carries.
func (s *space) take(pn uint64) load {
	x := s.loads[pn]
	delete(s.loads, pn)
	return x
}
