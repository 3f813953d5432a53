package line

import (
	"colonnade/api"
	"colonnade/frame"
	"colonnade/span"
)

// mostShort is the greatest length whose encoding takes one byte; that of longer data of a frame takes two.
const mostShort = 63

// speech is what the handshake says at a level.
type speech struct {
	data  []byte
	todo  *span.Set // the bytes to be sent
	acked *span.Set
}

func newSpeech() speech {
	return speech{todo: span.New(), acked: span.New()}
}

// write appends p to what is to be sent.
func (s *speech) write(p []byte) {
	from := uint64(len(s.data))
	s.data = append(s.data, p...)
	s.todo.Add(from, uint64(len(s.data))-1)
}

// next takes the bytes to be sent first as a frame of at most room bytes, or returns false if there are none or there is no room.
func (s *speech) next(room int) (api.Frame, bool) {
	l := s.todo.Ranges(s.todo.Len())
	if len(l) == 0 {
		return api.Frame{}, false
	}
	r := l[len(l)-1]
	f := api.Frame{Kind: api.Crypto, Off: r.From}
	p, _ := frame.Bytes(f)
	most := room - len(p)
	if most > mostShort {
		most--
	}
	if most < 1 {
		return api.Frame{}, false
	}
	to := min(r.To, r.From+uint64(most)-1)
	f.Data = append(f.Data, s.data[r.From:to+1]...)
	s.todo.Cut(r.From, to)
	return f, true
}

// lost records that f is to be sent again.
func (s *speech) lost(f api.Frame) {
	s.todo.Add(f.Off, f.Off+uint64(len(f.Data))-1)
}

// arrived records that f was acknowledged.
func (s *speech) arrived(f api.Frame) {
	s.acked.Add(f.Off, f.Off+uint64(len(f.Data))-1)
}

// isAcked reports whether all of it was acknowledged.
func (s *speech) isAcked() bool {
	return s.acked.Hole(0) >= uint64(len(s.data))
}
