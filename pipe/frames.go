package pipe

import (
	"cmp"
	"slices"

	"colonnade/api"
	"colonnade/frame"
)

// mostShort is the greatest length whose encoding takes one byte; that of longer data of a frame takes two.
const mostShort = 63

// flight is a frame without its bytes, which are in flight only once. A limit may be in flight more often.
type flight struct {
	kind, id, off, n, code uint64
	fin                    bool
	size                   int
}

func flightOf(f api.Frame) flight {
	return flight{f.Kind, f.ID, f.Off, f.N, f.Code, f.Fin, len(f.Data)}
}

// Frames returns the frames to be sent now, which have at most room bytes in total.
func (t *Table) Frames(room int) []api.Frame {
	if t == nil {
		return nil
	}
	room = max(room, 0)
	l := t.notices(room)
	for _, f := range l {
		room -= size(f)
	}
	l = append(l, t.pieces(room)...)
	for _, f := range l {
		t.flying[flightOf(f)]++
	}
	return l
}

// Lost says that a frame that Frames returned was lost.
func (t *Table) Lost(f api.Frame) {
	if !t.land(f) {
		return
	}
	if f.Kind != api.Stream {
		t.tell(f.Kind, f.ID)
		return
	}
	if s := t.live[f.ID]; s != nil {
		s.send.lose(f)
	}
}

// Acked says that a frame that Frames returned was acknowledged.
func (t *Table) Acked(f api.Frame) {
	if !t.land(f) {
		return
	}
	if f.Kind != api.Stream && f.Kind != api.ResetStream {
		return
	}
	s := t.live[f.ID]
	if s == nil {
		return
	}
	if f.Kind == api.Stream {
		s.send.acknowledge(f)
	} else {
		s.send.finish()
	}
	t.settle(s)
}

// Idle reports whether nothing may be sent now, and nothing is in flight.
func (t *Table) Idle() bool {
	if t == nil {
		return true
	}
	if len(t.flying) > 0 || len(t.sendable()) > 0 {
		return false
	}
	for n := range t.due {
		if _, ok := t.frameOf(n); ok {
			return false
		}
	}
	return true
}

// land takes a frame out of those in flight, and reports whether it was one.
func (t *Table) land(f api.Frame) bool {
	if t == nil {
		return false
	}
	k := flightOf(f)
	switch t.flying[k] {
	case 0:
		return false
	case 1:
		delete(t.flying, k)
	default:
		t.flying[k]--
	}
	return true
}

// pieces returns the Stream frames to be sent now, as far as they fit into room bytes.
func (t *Table) pieces(room int) []api.Frame {
	var l []api.Frame
	for _, s := range t.sendable() {
		for {
			off, n, ok := s.send.next(t.purse.Left())
			if !ok {
				break
			}
			n, ok = fit(s.id, off, n, room)
			// What has no room isn't overtaken by streams of lower priority.
			if !ok {
				return l
			}
			f := s.send.piece(s.id, off, n)
			t.purse.Spend(s.send.note(f))
			room -= size(f)
			l = append(l, f)
		}
	}
	return l
}

// sendable returns the streams that may send something, in the order of their priorities.
func (t *Table) sendable() []*stream {
	var l []*stream
	for _, s := range t.live {
		if _, _, ok := s.send.next(t.purse.Left()); ok {
			l = append(l, s)
		}
	}
	slices.SortFunc(l, func(a, b *stream) int {
		return cmp.Or(slices.Compare(a.rank[:], b.rank[:]), cmp.Compare(a.id, b.id))
	})
	return l
}

// fit returns how many of n bytes a Stream frame of at most room bytes can have, or false if there is no room for one that is of use.
func fit(id, off, n uint64, room int) (uint64, bool) {
	most := room - size(api.Frame{Kind: api.Stream, ID: id, Off: off})
	if most > mostShort {
		most--
	}
	if most < int(min(n, 1)) {
		return 0, false
	}
	return min(n, uint64(most), api.MaxPacket), true
}

// size returns the length of a frame's encoding.
func size(f api.Frame) int {
	p, _ := frame.Bytes(f)
	return len(p)
}
