package pipe

import (
	"colonnade/api"
	"colonnade/frame"
)

// Hear processes a received frame. It returns 0, or the code with which the connection must be closed.
func (t *Table) Hear(f api.Frame) uint64 {
	if t == nil || !valid(f) {
		return 0
	}
	switch f.Kind {
	case api.Stream, api.ResetStream, api.StopSending, api.MaxStreamData:
		return t.hearStream(f)
	case api.MaxData:
		t.purse.Grant(f.N)
	case api.StreamsBidi:
		t.kinds[bidi].grant(f.N)
	case api.StreamsUni:
		t.kinds[uni].grant(f.N)
	}
	return 0
}

// valid reports whether f is a frame, whose Data may have any length.
func valid(f api.Frame) bool {
	if f.Off > api.MaxNum || uint64(len(f.Data)) > api.MaxNum-f.Off {
		return false
	}
	// Bytes would find a long text too long before anything else.
	f.Data = f.Data[:min(len(f.Data), 1)]
	_, e := frame.Bytes(f)
	return e == api.OK
}

// hearStream processes a frame that names a stream.
func (t *Table) hearStream(f api.Frame) uint64 {
	if !t.possible(f) {
		return api.StreamState
	}
	if !t.owns(f.ID) && f.ID>>numberShift >= t.kind(f.ID).lets {
		return api.StreamLimit
	}
	s := t.look(f.ID)
	if to, ends, ok := extent(f); ok {
		if !s.recv.agrees(to, ends) {
			return api.FinalSize
		}
		if !t.affords(s.recv, to) {
			return api.FlowControl
		}
	}
	if !t.owns(f.ID) {
		t.know(f.ID)
	}
	t.keep(s)
	t.take(s, f)
	return 0
}

// possible reports whether the stream that f names can have such a frame.
func (t *Table) possible(f api.Frame) bool {
	if t.owns(f.ID) && !t.knows(f.ID) {
		return false
	}
	if _, _, ok := extent(f); ok {
		return t.receives(f.ID)
	}
	return t.sends(f.ID)
}

// extent returns up to which offset f says that the stream goes, and whether it ends there; false if f says nothing of that.
func extent(f api.Frame) (uint64, bool, bool) {
	switch f.Kind {
	case api.Stream:
		return f.Off + uint64(len(f.Data)), f.Fin, true
	case api.ResetStream:
		return f.Off, true, true
	}
	return 0, false, false
}

// take does what f, which is not refused, says of s.
func (t *Table) take(s *stream, f api.Frame) {
	switch f.Kind {
	case api.Stream:
		t.takeBytes(s.recv, f)
	case api.ResetStream:
		t.takeReset(s, f)
	case api.StopSending:
		if s.send.reset(f.Code) {
			t.tell(api.ResetStream, s.id)
		}
	case api.MaxStreamData:
		s.send.grant(f.N)
	}
}

func (t *Table) takeBytes(r *receiver, f api.Frame) {
	if r.state != recvOpen {
		return
	}
	to, _, _ := extent(f)
	t.count(r, to)
	r.quilt.Put(f.Off, f.Data, f.Fin)
}

// takeReset discards what was not read. The credit for that, also for what never came, is free again.
func (t *Table) takeReset(s *stream, f api.Frame) {
	r := s.recv
	if r.state != recvOpen {
		return
	}
	t.count(r, f.Off)
	t.took(s, f.Off-r.quilt.Read())
	r.close(ending{state: recvReset, size: f.Off, code: f.Code})
}
