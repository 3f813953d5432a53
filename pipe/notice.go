package pipe

import (
	"cmp"
	"slices"

	"colonnade/api"
)

// notice names a frame without stream data by its kind and, if it is for a stream, the ID of that. Its values, and whether it is still of use, are those of the time when it is sent.
type notice struct {
	kind uint64
	id   uint64
}

// tell makes a frame without stream data due.
func (t *Table) tell(kind, id uint64) {
	t.due[notice{kind, id}] = struct{}{}
}

// notices returns the due frames without stream data, as far as they fit into room bytes.
func (t *Table) notices(room int) []api.Frame {
	var l []api.Frame
	for _, n := range t.inTurn() {
		f, ok := t.frameOf(n)
		if ok && size(f) > room {
			continue
		}
		delete(t.due, n)
		if ok {
			room -= size(f)
			l = append(l, f)
		}
	}
	return l
}

// inTurn returns what is due in the order in which it is sent.
func (t *Table) inTurn() []notice {
	l := make([]notice, 0, len(t.due))
	for n := range t.due {
		l = append(l, n)
	}
	slices.SortFunc(l, func(a, b notice) int {
		return cmp.Or(cmp.Compare(a.turn(), b.turn()), cmp.Compare(a.id, b.id))
	})
	return l
}

// turn returns the place of a notice among those of other kinds.
func (n notice) turn() int {
	kinds := []uint64{api.MaxData, api.MaxStreamData, api.StreamsBidi, api.StreamsUni, api.ResetStream, api.StopSending}
	return slices.Index(kinds, n.kind)
}

// frameOf returns the frame for a notice as it is now, or false if it is of no use any more.
func (t *Table) frameOf(n notice) (api.Frame, bool) {
	f := api.Frame{Kind: n.kind, ID: n.id}
	switch n.kind {
	case api.MaxData:
		f.N, _, _ = t.till.Told()
		return f, true
	case api.StreamsBidi:
		f.N = t.kinds[bidi].lets
		return f, true
	case api.StreamsUni:
		f.N = t.kinds[uni].lets
		return f, true
	}
	s := t.live[n.id]
	if s == nil {
		return f, false
	}
	switch n.kind {
	case api.MaxStreamData:
		f.N, _, _ = s.recv.till.Told()
		_, ended := s.recv.end()
		return f, !ended
	case api.ResetStream:
		f.Off, f.Code = s.send.sent, s.send.code
		return f, true
	default:
		f.Code = s.recv.stopCode
		return f, s.recv.state == recvOpen
	}
}
