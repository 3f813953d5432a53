package pipe

import (
	"colonnade/api"
	"colonnade/credit"
	"colonnade/quilt"
)

// recvState is the state of a receiving part.
type recvState int

const (
	recvOpen  recvState = iota
	recvDone            // a Read returned its end
	recvReset           // by a ResetStream
)

// ending is how a receiving part ended.
type ending struct {
	state recvState
	size  uint64 // its end
	code  uint64 // if it is reset
}

// receiver is a receiving part. Only an open one has a quilt and a till.
type receiver struct {
	ending
	reported bool // Read said that it is reset
	quilt    *quilt.Quilt
	till     *credit.Till
	stopped  bool
	stopCode uint64
}

func newReceiver(window uint64) *receiver {
	return &receiver{quilt: quilt.New(), till: credit.NewTill(window)}
}

// isOver reports whether nothing is left to do. A part that a stream does not have is over.
func (r *receiver) isOver() bool {
	return r == nil || r.state == recvDone || r.state == recvReset && r.reported
}

// held returns how many bytes wait to be read.
func (r *receiver) held() int {
	if r == nil {
		return 0
	}
	return r.quilt.Held()
}

// stop records that the other side is asked to stop, and reports whether it is.
func (r *receiver) stop(code uint64) bool {
	if r.state != recvOpen || r.stopped {
		return false
	}
	r.stopped, r.stopCode = true, code
	return true
}

// close ends the part.
func (r *receiver) close(e ending) {
	*r = receiver{ending: e}
}

// end returns the end, or false if it is not known.
func (r *receiver) end() (uint64, bool) {
	if r.state == recvOpen {
		return r.quilt.End()
	}
	return r.size, true
}

// high returns the end of everything received.
func (r *receiver) high() uint64 {
	if r.state == recvOpen {
		return r.quilt.High()
	}
	return r.size
}

// agrees reports whether bytes up to the offset to, where the stream may end, agree with what was received. A different end than the known one is above or below it.
func (r *receiver) agrees(to uint64, ends bool) bool {
	if end, ok := r.end(); ok && to > end {
		return false
	}
	return !ends || to >= r.high()
}

// affords reports whether bytes up to the offset to are within the limits.
func (t *Table) affords(r *receiver, to uint64) bool {
	high := r.high()
	// A part that is not open, which has no till, receives nothing beyond.
	if to <= high {
		return true
	}
	limit, _, _ := r.till.Told()
	all, came, _ := t.till.Told()
	return to <= limit && to-high <= all-came
}

// count puts bytes up to the offset to on the account of both tills.
func (t *Table) count(r *receiver, to uint64) {
	high := r.high()
	if to <= high {
		return
	}
	_, came, _ := t.till.Told()
	t.till.Came(came + to - high)
	r.till.Came(to)
}

// took puts n bytes of an open part that were read, or will never be, on the account of both tills.
func (t *Table) took(s *stream, n uint64) {
	s.recv.till.Took(n)
	t.till.Took(n)
	if _, ok := s.recv.till.News(); ok {
		t.tell(api.MaxStreamData, s.id)
	}
	if _, ok := t.till.News(); ok {
		t.tell(api.MaxData, 0)
	}
}
