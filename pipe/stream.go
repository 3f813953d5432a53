package pipe

import "colonnade/api"

// The parts of an ID.
const (
	serverBit   = 1
	uniBit      = 2
	numberShift = 2
)

const (
	// There are no more streams of a type, as IDs are at most MaxNum.
	mostStreams = 1 << 60
	// The result of a call has no more items.
	mostItems = 1<<31 - 1
)

// The kinds of streams, by their indexes in a table.
const (
	bidi = iota
	uni
)

// kind is the bidirectional or the unidirectional streams, those of both sides.
type kind struct {
	opened uint64 // own ones
	may    uint64 // how many own ones the other side permits
	known  uint64 // ones of the other side
	lets   uint64 // how many of the other side's this side permits
}

// batch is streams that became known together: count of them, from the ID first on.
type batch struct {
	first uint64
	count uint64
}

// stream is a known one. A part that it does not have is nil.
type stream struct {
	id   uint64
	rank Rank
	send *sender
	recv *receiver
}

func (s *stream) isOver() bool {
	return s.send.isOver() && s.recv.isOver()
}

// lowBits returns the bits of an ID below the number.
func lowBits(server, uni bool) uint64 {
	var low uint64
	if server {
		low |= serverBit
	}
	if uni {
		low |= uniBit
	}
	return low
}

// grant raises the number of streams that may be opened, if the new one is larger.
func (k *kind) grant(n uint64) {
	k.may = max(k.may, n)
}

func (t *Table) kind(id uint64) *kind {
	if id&uniBit != 0 {
		return &t.kinds[uni]
	}
	return &t.kinds[bidi]
}

// owns reports whether a stream is one that this side opens.
func (t *Table) owns(id uint64) bool {
	return (id&serverBit != 0) == t.server
}

// sends reports whether a stream has a sending part.
func (t *Table) sends(id uint64) bool {
	return t.owns(id) || id&uniBit == 0
}

// receives reports whether a stream has a receiving part.
func (t *Table) receives(id uint64) bool {
	return !t.owns(id) || id&uniBit == 0
}

func (t *Table) knows(id uint64) bool {
	k := t.kind(id)
	if t.owns(id) {
		return id>>numberShift < k.opened
	}
	return id>>numberShift < k.known
}

// known returns the stream with that ID, or nil if no such one is known.
func (t *Table) known(id uint64) *stream {
	if t == nil || !t.knows(id) {
		return nil
	}
	s := t.look(id)
	t.keep(s)
	return s
}

// sending returns a stream that must be known and have a sending part.
func (t *Table) sending(id uint64) (*stream, api.Errno) {
	s := t.known(id)
	if s == nil {
		return nil, api.ErrNone
	}
	if s.send == nil {
		return nil, api.ErrState
	}
	return s, api.OK
}

// receiving returns a stream that must be known and have a receiving part.
func (t *Table) receiving(id uint64) (*stream, api.Errno) {
	s := t.known(id)
	if s == nil {
		return nil, api.ErrNone
	}
	if s.recv == nil {
		return nil, api.ErrState
	}
	return s, api.OK
}

// look returns the stream with that ID as it is, or, if it is not known yet, as it will be at first. It changes nothing, so that a frame can still be refused.
func (t *Table) look(id uint64) *stream {
	if s, ok := t.live[id]; ok {
		return s
	}
	e, ok := t.past[id]
	// Own streams are used from the first, so one that is not live is over.
	if ok || t.owns(id) {
		return t.finished(id, e)
	}
	return t.fresh(id)
}

// fresh returns a stream of which nothing was sent or received.
func (t *Table) fresh(id uint64) *stream {
	s := &stream{id: id}
	if t.sends(id) {
		s.send = newSender(t.peer)
	}
	if t.receives(id) {
		s.recv = newReceiver(t.window)
	}
	return s
}

// finished returns a stream that is over, with what is left of its receiving part.
func (t *Table) finished(id uint64, e ending) *stream {
	s := &stream{id: id}
	if t.sends(id) {
		s.send = &sender{state: sendOver}
	}
	if t.receives(id) {
		s.recv = &receiver{ending: e, reported: true}
	}
	return s
}

// know makes a stream of the other side known, together with those of smaller numbers. They need no memory until they are used.
func (t *Table) know(id uint64) {
	if t.knows(id) {
		return
	}
	k := t.kind(id)
	low := id & (serverBit | uniBit)
	count := id>>numberShift + 1
	t.arrived = append(t.arrived, batch{first: k.known<<numberShift | low, count: count - k.known})
	k.known = count
}

// keep stores a stream that may be new.
func (t *Table) keep(s *stream) {
	if !s.isOver() {
		t.live[s.id] = s
	}
}

// settle removes a stream if it is over now. What late frames and calls still need of it is how its receiving part ended.
func (t *Table) settle(s *stream) {
	if t.live[s.id] == nil || !s.isOver() {
		return
	}
	delete(t.live, s.id)
	t.over++
	if s.recv != nil {
		t.past[s.id] = s.recv.ending
	}
	if !t.owns(s.id) {
		t.let(s.id)
	}
}

// let permits one more stream of the other side, of the type of that one.
func (t *Table) let(id uint64) {
	k := t.kind(id)
	if k.lets == mostStreams {
		return
	}
	k.lets++
	if id&uniBit != 0 {
		t.tell(api.StreamsUni, 0)
	} else {
		t.tell(api.StreamsBidi, 0)
	}
}
